/-
  The reference's parts, Deeper and Nodes.
-/
import Derived.Test.YthkpcanlimhhfaaLimX
namespace Go.Proofs.Ythkpcanlimhhfaa.VL
open Go.RowKit
set_option linter.unusedVariables false
set_option linter.unusedSimpArgs false
open RO

/-- A value among those that parts collects. -/
structure VC where
  k : Int
  m : VM
  ab : Option Addr
  nb : Nat
  cb : Nat
  al : Option Addr
  nl : Nat
  cl : Nat
  af : Option Addr
  nf : Nat
  cf : Nat
  T : VT
def vcc (x : VC) : List Value := [.int .i64 x.k, .bool x.m.b, .bool x.m.ng, .string x.m.dg, .int .i64 x.m.ex, .int .i64 x.m.tk, .int .i64 x.m.td, .int .i64 x.m.tn, .int .i64 x.m.tz, .string x.m.tx, .slice x.ab x.nb x.cb, .slice x.al x.nl x.cl, .slice x.af x.nf x.cf]
theorem vcc_len (x : VC) : (vcc x).length = 13 := rfl
theorem vcc_one (x : VC) : ∀ u ∈ vcc x, u.oneCell' = true := by
  intro u hu
  simp [vcc] at hu
  rcases hu with rfl | rfl | rfl | rfl | rfl | rfl | rfl | rfl | rfl | rfl | rfl | rfl | rfl <;> rfl
theorem info_val : (Try.prog.info? 30).map (fun i => (i.zero, i.size, i.bytes)) = some (some (.agg #[.int .i64 0, .bool false, .bool false, .string ⟨#[]⟩, .int .i64 0, .int .i64 0, .int .i64 0, .int .i64 0, .int .i64 0, .string ⟨#[]⟩, .slice none 0 0, .slice none 0 0, .slice none 0 0]), 13, 168) := by kernel_rfl
theorem vl_app {ops : Array Oper} {rest : List Oper} {o : Oper} {a : Act} {Q : Exit → Act → World → Prop} (hgd : o.guard = none) (s y : Operand) (ho : o.op = .call { callee := .builtin .append, args := #[s, y], argTypes := #[27, 27] })
    {W w : World} {base : Nat} {v : Value} {L : List VC} (hs : a.eval s = v) (hB : Ow vcc 13 30 w base v L) (hb : Below base W w) (hbs : base ≤ w.heap.size) (x : VC) {C : Array Value} {c : Nat} (hx : a.eval y = .slice (some ⟨w.heap.size, 0, none⟩) 1 c) (hC : C = (vcc x).toArray) (hlen : L.length + 1 ≤ 100000000)
    (h : ∀ v' w', Ow vcc 13 30 w' base v' (L ++ [x]) → Below base W w' → base ≤ w'.heap.size → wpList Try.prog ops Q rest (a.put o.dst v') w') : wpList Try.prog ops Q (o :: rest) a (w.alloc (.cells C 30)) :=
  wpList_appo Try.underlying27 info_val rfl vcc_len vcc_one (by decide) (by decide) hgd s y ho hs hB hb hbs x hx hC hlen h
theorem SlR.of_rd {w : World} {B f : Nat} {v : Value} {L : List VC} (h : Rd vcc 13 w B v L) (hv : ∀ x ∈ L, VR w B f (vcc x) x.T) : SlR w B 13 (fun c t => VR w B f c t) v (L.map VC.T) := by
  rcases h with ⟨a, c, rfl, rfl⟩ | ⟨g, o, cap, rfl, hg, h1, h2, h3⟩
  · exact .inl ⟨_, _, rfl, rfl⟩
  · refine .inr ⟨g, o, cap, by rw [List.length_map], hg, by rw [List.length_map]; exact h1, h2, fun i x hx => ?_⟩
    rw [List.getElem?_map] at hx
    obtain ⟨y, hy, rfl⟩ := Option.map_eq_some_iff.1 hx
    exact ⟨vcc y, rfl, fun j u hu => h3 i y j u hy hu, hv y (List.mem_of_getElem? hy)⟩
/-- A value among the fields of a map, as it read at the start. -/
theorem SlR.at14w {w : World} {f : Nat} {a : Option Addr} {n cap : Nat} {L : List (ByteArray × VT)} (h : SlR w w.heap.size 14 (fun c (p : ByteArray × VT) => ∃ r, c = .string p.1 :: r ∧ p.1.size ≤ maxLen ∧ VR w w.heap.size f r p.2) (.slice a n cap) L) (hn : L.length = n) : ∀ (w' : World), Below w.heap.size w w' → ∀ k, k < n → ∃ (g o : Nat) (s : ByteArray) (kx : Int) (mx : VM) (lx : List VT) (fx : List (ByteArray × VT)) (ax1 : Option Addr) (nx1 cx1 : Nat) (ax2 : Option Addr) (nx2 cx2 : Nat) (ax3 : Option Addr) (nx3 cx3 : Nat), a = some ⟨g, o, none⟩ ∧ L[k]? = some (s, .mk kx mx lx fx) ∧ g < w.heap.size ∧ VR w w.heap.size f [.int .i64 kx, .bool mx.b, .bool mx.ng, .string mx.dg, .int .i64 mx.ex, .int .i64 mx.tk, .int .i64 mx.td, .int .i64 mx.tn, .int .i64 mx.tz, .string mx.tx, .slice ax1 nx1 cx1, .slice ax2 nx2 cx2, .slice ax3 nx3 cx3] (.mk kx mx lx fx) ∧ w'.cell? ⟨g, o + k * 14, none⟩ = some (.string s) ∧ w'.cell? ⟨g, o + k * 14 + 1, none⟩ = some (.int .i64 kx) ∧ w'.cell? ⟨g, o + k * 14 + 2, none⟩ = some (.bool mx.b) ∧ w'.cell? ⟨g, o + k * 14 + 3, none⟩ = some (.bool mx.ng) ∧ w'.cell? ⟨g, o + k * 14 + 4, none⟩ = some (.string mx.dg) ∧ w'.cell? ⟨g, o + k * 14 + 5, none⟩ = some (.int .i64 mx.ex) ∧ w'.cell? ⟨g, o + k * 14 + 6, none⟩ = some (.int .i64 mx.tk) ∧ w'.cell? ⟨g, o + k * 14 + 7, none⟩ = some (.int .i64 mx.td) ∧ w'.cell? ⟨g, o + k * 14 + 8, none⟩ = some (.int .i64 mx.tn) ∧ w'.cell? ⟨g, o + k * 14 + 9, none⟩ = some (.int .i64 mx.tz) ∧ w'.cell? ⟨g, o + k * 14 + 10, none⟩ = some (.string mx.tx) ∧ w'.cell? ⟨g, o + k * 14 + 11, none⟩ = some (.slice ax1 nx1 cx1) ∧ w'.cell? ⟨g, o + k * 14 + 12, none⟩ = some (.slice ax2 nx2 cx2) ∧ w'.cell? ⟨g, o + k * 14 + 13, none⟩ = some (.slice ax3 nx3 cx3) := by
  intro w' hb k hk
  rcases h with ⟨_, _, h1, h2⟩ | ⟨g, o, c, h1, h2, h3, h4, h5⟩
  · subst h2; simp at hn; omega
  · injection h1 with e1 e2 e3
    have hq : L[k]? = some (L[k]'(by omega)) := List.getElem?_eq_getElem _
    obtain ⟨cs, c1, c2, r, hr, _, c3⟩ := h5 k _ hq
    subst hr
    obtain ⟨kx, mx, lx, fx, ax1, nx1, cx1, ax2, nx2, cx2, ax3, nx3, cx3, ht, rfl⟩ := c3.form
    rw [show L[k]'(by omega) = ((L[k]'(by omega)).1, .mk kx mx lx fx) from Prod.ext rfl ht] at hq
    rw [ht] at c3
    have cc : ∀ j u, (.string (L[k]'(by omega)).1 :: [.int .i64 kx, .bool mx.b, .bool mx.ng, .string mx.dg, .int .i64 mx.ex, .int .i64 mx.tk, .int .i64 mx.td, .int .i64 mx.tn, .int .i64 mx.tz, .string mx.tx, .slice ax1 nx1 cx1, .slice ax2 nx2 cx2, .slice ax3 nx3 cx3] : List Value)[j]? = some u → w'.cell? ⟨g, o + k * 14 + j, none⟩ = some u := fun j u hu => (hb.cell (p := ⟨g, o + k * 14 + j, none⟩) h2).trans (c2 j u hu)
    exact ⟨g, o, _, kx, mx, lx, fx, ax1, nx1, cx1, ax2, nx2, cx2, ax3, nx3, cx3, e1, hq, h2, c3, cc 0 _ rfl, cc 1 _ rfl, cc 2 _ rfl, cc 3 _ rfl, cc 4 _ rfl, cc 5 _ rfl, cc 6 _ rfl, cc 7 _ rfl, cc 8 _ rfl, cc 9 _ rfl, cc 10 _ rfl, cc 11 _ rfl, cc 12 _ rfl, cc 13 _ rfl⟩
/-- The parts of a value. -/
def ptT (k : Int) (l : List VT) (fs : List (ByteArray × VT)) : List VT := if k = 6 then l else if k = 7 then fs.map (·.2) else []
set_option maxRecDepth 100000 in
set_option maxHeartbeats 8000000 in
theorem parts_any (f : Nat) (cs : List Value) (k : Int) (m : VM) (l : List VT) (fs : List (ByteArray × VT)) (w : World) (h : VR w w.heap.size (f + 1) cs (.mk k m l fs)) (hfl : fs.length ≤ 1000) : Calls Try.prog 19 #[.agg cs.toArray] w fun e w' => ∃ v, e = .returned v ∧ SlR w' w'.heap.size 13 (fun c t => VR w' w'.heap.size f c t) v (ptT k l fs) ∧ Below w.heap.size w w' := by
  have hV0 := h
  obtain ⟨hk, hm, bv, lv, fv, rfl, hB, hL, hF⟩ := h
  obtain ⟨nb, hnb⟩ : ∃ n, m.by_.length = n := ⟨_, rfl⟩
  obtain ⟨nl, hnl⟩ : ∃ n, l.length = n := ⟨_, rfl⟩
  obtain ⟨nf, hnf⟩ : ∃ n, fs.length = n := ⟨_, rfl⟩
  obtain ⟨ab, cb, rfl, hb9⟩ := SlR.slice hB hnb
  obtain ⟨al, cl, rfl, hl9⟩ := SlR.slice hL hnl
  obtain ⟨af, cf, rfl, hf9⟩ := SlR.slice hF hnf
  have C2 := Lib.hid (SlR.at14w hF hnf)
  have A := BX.new w (cs := [.int .i64 k, .bool m.b, .bool m.ng, .string m.dg, .int .i64 m.ex, .int .i64 m.tk, .int .i64 m.td, .int .i64 m.tn, .int .i64 m.tz, .string m.tx, .slice ab nb cb, .slice al nl cl, .slice af nf cf]) rfl
  have bl : Below w.heap.size w (w.alloc (.cells #[.int .i64 k, .bool m.b, .bool m.ng, .string m.dg, .int .i64 m.ex, .int .i64 m.tk, .int .i64 m.td, .int .i64 m.tn, .int .i64 m.tz, .string m.tx, .slice ab nb cb, .slice al nl cl, .slice af nf cf] 30)) := (Below.refl _ _).alloc (Nat.le_refl _) _
  obtain ⟨x0, x1, x2, x3, x4, x5, x6, x7, x8, x9, x10, x11, x12⟩ := A.all
  have HA := Lib.hid A
  have HAW := Lib.hid A
  have HL := Lib.hid hL
  clear hF hB A hnb hm hV0 hL
  change Calls Try.prog 19 #[.agg #[.int .i64 k, .bool m.b, .bool m.ng, .string m.dg, .int .i64 m.ex, .int .i64 m.tk, .int .i64 m.td, .int .i64 m.tn, .int .i64 m.tz, .string m.tx, .slice ab nb cb, .slice al nl cl, .slice af nf cf]] w _
  by_cases k6 : k = 6
  · obtain rfl : 6 = k := k6.symm
    have HR : Hid (ptT 6 l fs = l) := Lib.hid (if_pos rfl)
    go_enter Try.func19, Try.ntmps19
    go_wp2
    go_ret
    refine ⟨_, rfl, ?_, bl⟩
    rw [HR.out]
    exact (HL.out.imp (fun c t hc => VR.below bl bl.size f c t hc)).below bl bl.size
  · by_cases k7 : k = 7
    · obtain rfl : 7 = k := k7.symm
      have HR : Hid (ptT 7 l fs = fs.map (·.2)) := Lib.hid ((if_neg (by decide)).trans (if_pos rfl))
      have HEND : Hid ((fs.map (·.2)).take nf = fs.map (·.2)) := Lib.hid (List.take_of_length_le (by rw [List.length_map]; omega))
      go_enter Try.func19, Try.ntmps19
      go_wp2
      go_loopw [3, 4] (fun lv i wr => ∃ (q : Nat) (acc : List VC), q ≤ nf ∧ i = .int .i64 q ∧ acc.length = q ∧ Hid (Ow vcc 13 30 wr (w.heap.size + 1) lv acc) ∧ Below (w.heap.size + 1) (w.alloc (.cells #[.int .i64 7, .bool m.b, .bool m.ng, .string m.dg, .int .i64 m.ex, .int .i64 m.tk, .int .i64 m.td, .int .i64 m.tn, .int .i64 m.tz, .string m.tx, .slice ab nb cb, .slice al nl cl, .slice af nf cf] 30)) wr ∧ w.heap.size + 1 ≤ wr.heap.size ∧ Hid (BX wr w.heap.size [.int .i64 7, .bool m.b, .bool m.ng, .string m.dg, .int .i64 m.ex, .int .i64 m.tk, .int .i64 m.td, .int .i64 m.tn, .int .i64 m.tz, .string m.tx, .slice ab nb cb, .slice al nl cl, .slice af nf cf]) ∧ Hid (acc.map VC.T = (fs.map (·.2)).take q ∧ ∀ x ∈ acc, VR w w.heap.size f (vcc x) x.T)) (fun _ i _ => nf - (intOf i).toNat)
      case atStart => exact ⟨0, [], by omega, rfl, rfl, Lib.hid (Ow.nil _ _), Below.refl _ _, by simp, HA, Lib.hid ⟨rfl, fun x hx => by cases hx⟩⟩
      case round =>
        clear HA x0 x1 x2 x3 x4 x5 x6 x7 x8 x9 x10 x11 x12
        obtain ⟨q, acc, hq, rfl, hacc, HO, bl3, hbs, HA, HX⟩ := hrel
        have bl2 : Below w.heap.size w wr := bl.trans (bl3.mono (by omega))
        have A := HA.out
        have x12 := A.at_ (i := 12) (by decide) rfl
        clear A
        by_cases hlt : q < nf
        · obtain ⟨g, o, s, kx, mx, lx, fx, ax1, nx1, cx1, ax2, nx2, cx2, ax3, nx3, cx3, rfl, hx, hg, hv, e, e0, e1, e2, e3, e4, e5, e6, e7, e8, e9, e10, e11, e12⟩ := C2.out _ bl2 q hlt
          have HX2 : Hid ((acc ++ [(VC.mk kx mx ax1 nx1 cx1 ax2 nx2 cx2 ax3 nx3 cx3 (.mk kx mx lx fx))]).map VC.T = (fs.map (·.2)).take (q + 1) ∧ ∀ x ∈ acc ++ [(VC.mk kx mx ax1 nx1 cx1 ax2 nx2 cx2 ax3 nx3 cx3 (.mk kx mx lx fx))], VR w w.heap.size f (vcc x) x.T) := Lib.hid ⟨by
            have h2 : (fs.map (·.2))[q]? = some (.mk kx mx lx fx) := by rw [List.getElem?_map, hx]; rfl
            obtain ⟨h3, h4⟩ := List.getElem?_eq_some_iff.1 h2
            rw [List.map_append, HX.out.1, List.take_succ_eq_append_getElem h3, h4]; rfl, fun x hx2 => by
            rcases List.mem_append.1 hx2 with h3 | h3
            · exact HX.out.2 x h3
            · rw [List.mem_singleton.1 h3]; exact hv⟩
          clear hx hv
          have hgw : g < wr.heap.size := by omega
          go_wp2_with (at_builtin; (refine vl_app (by rfl) (.tmp 20) (.tmp 27) (by rfl) (by rfl) HO.out bl3 hbs (VC.mk kx mx ax1 nx1 cx1 ax2 nx2 cx2 ax3 nx3 cx3 (.mk kx mx lx fx)) (by rfl) (by rfl) (by omega) ?_); intro v2 w2 hO2 hb2 hbs2; have HO2 := Lib.hid hO2; clear hO2)
          exact ⟨⟨q + 1, acc ++ [(VC.mk kx mx ax1 nx1 cx1 ax2 nx2 cx2 ax3 nx3 cx3 (.mk kx mx lx fx))], by omega, by go_num, by simp; omega, HO2, hb2, hbs2, Lib.hid (HAW.out.below hb2 (by omega)), HX2⟩, by simp [intOf]; omega⟩
        · obtain rfl : nf = q := by omega
          go_wp2
          go_ret
          refine ⟨_, rfl, ?_, bl2⟩
          rw [HR.out, ← HEND.out, ← HX.out.1]
          exact SlR.of_rd (HO.out.rd vcc_len) (fun x hx => VR.below bl2 bl2.size _ _ _ (HX.out.2 x hx))
    · have HR : Hid (ptT k l fs = []) := Lib.hid ((if_neg k6).trans (if_neg k7))
      have q6 : (k == 6) = false := by rw [beq_eq_false_iff_ne]; exact k6
      have q7 : (k == 7) = false := by rw [beq_eq_false_iff_ne]; exact k7
      go_enter Try.func19, Try.ntmps19
      go_wp2
      go_ret
      refine ⟨_, rfl, ?_, bl⟩
      rw [HR.out]
      exact .inl ⟨_, _, rfl, rfl⟩
end Go.Proofs.Ythkpcanlimhhfaa.VL
