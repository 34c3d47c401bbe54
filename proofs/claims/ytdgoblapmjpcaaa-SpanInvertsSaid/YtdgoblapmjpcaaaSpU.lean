/-
  Package span: the reference's Kept.
-/
import Derived.Test.YtdgoblapmjpcaaaSpT
import Derived.Test.YtdgoblapmjpcaaaSpP
namespace Go.Proofs.Ytdgoblapmjpcaaa.Sp
open Go.RowKit
set_option linter.unusedVariables false
set_option linter.unusedSimpArgs false
open RO

def run (y : Int) (a m : Nat) : List Int := (List.range m).map fun j => ((a + j : Nat) : Int) + y
theorem run_zero (y : Int) (a : Nat) : run y a 0 = [] := rfl
theorem run_succ (y : Int) (a m : Nat) : run y a (m + 1) = run y a m ++ [((a + m : Nat) : Int) + y] := by unfold run; rw [List.range_succ, List.map_append]; rfl
theorem run_length (y : Int) (a m : Nat) : (run y a m).length = m := by unfold run; simp
/-- For each byte from a on the offset that it has behind the edits, or -1. -/
def kpL (S : Nat) : Int → Nat → List Ed → List Int
  | y, a, [] => run y a (S - a)
  | y, a, d :: L => run y a (d.f.toNat - a) ++ (List.replicate (d.t.toNat - d.f.toNat) (-1) ++ kpL S (y + (d.x.size - (d.t - d.f))) d.t.toNat L)
theorem kp_at {S : Nat} {L : List Ed} {k : Nat} {y : Int} {a : Nat} {d : Ed} (h : L[k]? = some d) : kpL S y a (L.drop k) = run y a (d.f.toNat - a) ++ (List.replicate (d.t.toNat - d.f.toNat) (-1) ++ kpL S (y + (d.x.size - (d.t - d.f))) d.t.toNat (L.drop (k + 1))) := by
  rw [drop_get h]; rfl
theorem kp_end {S : Nat} {L : List Ed} {k : Nat} {y : Int} {a : Nat} (h : L.length ≤ k) : kpL S y a (L.drop k) = run y a (S - a) := by
  rw [List.drop_eq_nil_of_le h]; rfl
theorem info_int : (Try.prog.info? 3).map (fun i => (i.zero, i.size, i.bytes)) = some (some (.int .i64 0), 1, 8) := by kernel_rfl
theorem sp_api {ops : Array Oper} {rest : List Oper} {o : Oper} {a : Act} {Q : Exit → Act → World → Prop} (hgd : o.guard = none) (s y : Operand) (ho : o.op = .call { callee := .builtin .append, args := #[s, y], argTypes := #[68, 68] })
    {W w : World} {base : Nat} {v : Value} {L : List Int} (hs : a.eval s = v) (hB : Ow ic 1 3 w base v L) (hb : Below base W w) (hbs : base ≤ w.heap.size) (x : Int) {C : Array Value} {c : Nat} (hx : a.eval y = .slice (some ⟨w.heap.size, 0, none⟩) 1 c) (hC : C = (ic x).toArray) (hlen : L.length + 1 ≤ 100000000)
    (h : ∀ v' w', Ow ic 1 3 w' base v' (L ++ [x]) → Below base W w' → base ≤ w'.heap.size → wpList Try.prog ops Q rest (a.put o.dst v') w') : wpList Try.prog ops Q (o :: rest) a (w.alloc (.cells C 3)) :=
  wpList_appo Try.underlying68 info_int rfl ic_len ic_one (by decide) (by decide) hgd s y ho hs hB hb hbs x hx hC hlen h
theorem ow_len {w : World} {base : Nat} {v : Value} {L : List Int} (h : Ow ic 1 3 w base v L) {n : Nat} (hn : L.length = n) : slen v = n := by
  obtain ⟨a, cap, hv, _⟩ := Rd.slice (Ow.rd ic_len h) hn
  rw [hv]; rfl
theorem ow_i {w : World} {base : Nat} {v : Value} {L : List Int} (h : Ow ic 1 3 w base v L) (n : Nat) : Ow ic 1 3 (w.drewN n) base v L := h
/-- Short lists of short edits that lie in a text that is not too long. -/
def Sml2 (L : List Ed) : Prop := L.length ≤ 60 ∧ ∀ (k : Nat) (d : Ed), L[k]? = some d → 0 ≤ d.f ∧ d.f ≤ 20000 ∧ 0 ≤ d.t ∧ d.t ≤ 20000 ∧ d.x.size ≤ 300
theorem sml2_of {L : List Ed} {S : Nat} (h1 : L.length ≤ 60) (h2 : ∀ d ∈ L, d.x.size ≤ 300) (hG : Good L S) (hS : S ≤ 20000) : Sml2 L := by
  refine ⟨h1, fun k d hd => ?_⟩
  obtain ⟨a, b, c, _⟩ := hG.2 k d hd
  have := h2 d (List.mem_of_getElem? hd)
  omega
def KeptPost (K : List Int) (w : World) (e : Ending) (w' : World) : Prop := ∃ v, e = .returned v ∧ Below w.heap.size w w' ∧ Ow ic 1 3 w' w.heap.size v K
set_option maxRecDepth 100000 in
set_option maxHeartbeats 8000000 in
theorem rkept_any (v : Value) (L : List Ed) (S : Nat) (w : World) (hv : Es w w.heap.size v L) (hG : Good L S) (hS : Sml2 L) (hS5 : S ≤ 20000) : Calls Try.prog 34 #[v, .int .i64 S] w (KeptPost (kpL S 0 0 L) w) := by
  obtain ⟨n, hn⟩ : ∃ n, L.length = n := ⟨_, rfl⟩
  have hln := Rd.run_len Try.underlying22 hv hn
  have hn60 : n ≤ 60 := by have := hS.1; omega
  obtain ⟨R, hR⟩ : ∃ R, kpL S 0 0 L = R := ⟨_, rfl⟩
  rw [hR]
  have HN := Lib.hid hn
  have HSM := Lib.hid hS.2
  have HG := Lib.hid hG
  have HC : Hid (∀ wr, Below w.heap.size w wr → ∀ k, k < n → ∃ (g o cap : Nat) (d : Ed), v = .slice (some ⟨g, o, none⟩) n cap ∧ n ≤ cap ∧ L[k]? = some d ∧ g < w.heap.size ∧ wr.cell? ⟨g, o + k * 3, none⟩ = some (.int .i64 d.f) ∧ wr.cell? ⟨g, o + k * 3 + 1, none⟩ = some (.int .i64 d.t) ∧ wr.cell? ⟨g, o + k * 3 + 2, none⟩ = some (.string d.x)) := Lib.hid (by
    intro wr hb k hk
    obtain ⟨g, o, cap, hvv, hg, hc, _, hcell⟩ := hv.at_ hn (by omega)
    obtain ⟨d, hd⟩ := get_in hn hk
    obtain ⟨e0, e1, e2⟩ := hcell k d hd
    exact ⟨g, o, cap, d, hvv, hc, hd, hg, (hb.cell (p := ⟨g, o + k * 3, none⟩) hg).trans e0, (hb.cell (p := ⟨g, o + k * 3 + 1, none⟩) hg).trans e1, (hb.cell (p := ⟨g, o + k * 3 + 2, none⟩) hg).trans e2⟩)
  have HX : Hid (R = [] ++ kpL S 0 0 (L.drop 0)) := Lib.hid hR.symm
  have HB0 : Hid (Below w.heap.size w w) := Lib.hid (Below.refl _ _)
  clear hv hS hG hn hR
  go_enter Try.func34, Try.ntmps34
  go_wp2
  go_loopw [5, 6, 7] (fun u b i wr => ∃ (k a : Nat) (y : Int) (P : List Int), k ≤ n ∧ i = .int .i64 k ∧ b = .int .i64 y ∧ a = atk L k ∧ -20400 * (k : Int) ≤ y ∧ y ≤ 20400 * (k : Int) ∧ Hid (P.length = a) ∧ Hid (Ow ic 1 3 wr w.heap.size u P) ∧ Hid (Below w.heap.size w wr) ∧ w.heap.size ≤ wr.heap.size ∧ Hid (R = P ++ kpL S y a (L.drop k))) (fun _ _ i _ => n - (intOf i).toNat)
  case atStart => exact ⟨0, 0, 0, [], by omega, rfl, rfl, rfl, by omega, by omega, Lib.hid rfl, Lib.hid (Ow.nil _ _), HB0, Nat.le_refl _, HX⟩
  case round =>
    obtain ⟨k, a, y, P, hk, rfl, rfl, hat, hy1, hy2, HP, HO, HB, hbs, HX⟩ := hrel
    have has : a ≤ S := by rw [hat]; exact atk_le HG.out (by rw [HN.out]; exact hk)
    by_cases hlt : k < n
    · obtain ⟨g, o, cap, d, rfl, hcap, hd, hg, c0, c1, c2⟩ := HC.out wr HB.out k hlt
      obtain ⟨F, T, hF, hT, q1, q2, q3⟩ := good_nat HG.out hd
      rw [← hat] at q1
      have hat2 := atk_succ hd
      have hsm := HSM.out k d hd
      obtain ⟨_, _, _, _, _, _, hdw, _, w0, w1, w2⟩ : ∃ (_ _ _ _ _ _ : Nat), L[k]? = some d ∧ True ∧ w.cell? ⟨g, o + k * 3, none⟩ = some (.int .i64 d.f) ∧ w.cell? ⟨g, o + k * 3 + 1, none⟩ = some (.int .i64 d.t) ∧ w.cell? ⟨g, o + k * 3 + 2, none⟩ = some (.string d.x) := ⟨0, 0, 0, 0, 0, 0, hd, trivial, (HB.out.cell (p := ⟨g, o + k * 3, none⟩) hg).symm.trans c0, (HB.out.cell (p := ⟨g, o + k * 3 + 1, none⟩) hg).symm.trans c1, (HB.out.cell (p := ⟨g, o + k * 3 + 2, none⟩) hg).symm.trans c2⟩
      have HX3 : Hid (R = P ++ (run y a (F - a) ++ (List.replicate (T - F) (-1) ++ kpL S (y + (d.x.size - ((T : Int) - F))) T (L.drop (k + 1))))) := Lib.hid (by rw [HX.out, kp_at hd, hF, hT]; rfl)
      obtain ⟨df, dt, dx⟩ := d
      simp only at hF hT w0 w1 w2 hsm hat2 HX3
      subst hF hT
      have HW0 := Lib.hid w0
      have HW1 := Lib.hid w1
      have HW2 := Lib.hid w2
      have HA2 := Lib.hid hat2
      obtain ⟨s1, s2, s3, s4, s5⟩ := hsm
      clear hat hat2 w0 w1 w2 c0 c1 c2 hd hdw
      go_wp2
      go_loopw [5] (fun u wr => ∃ m : Nat, a + m ≤ F ∧ Hid (Ow ic 1 3 wr w.heap.size u (P ++ run y a m)) ∧ Hid (Below w.heap.size w wr) ∧ w.heap.size ≤ wr.heap.size) (fun u _ => F - slen u)
      case atStart => exact ⟨0, by omega, Lib.hid (by rw [run_zero, List.append_nil]; exact HO.out), HB, hbs⟩
      case round =>
        rename_i u0 w0 _
        obtain ⟨m, hm, HO2, HB2, hbs2⟩ := hrel
        obtain ⟨q, hq⟩ : ∃ q, a + m = q := ⟨_, rfl⟩
        have hlen : (P ++ run y a m).length = q := by rw [List.length_append, HP.out, run_length, hq]
        have hrl := Rd.run_len Try.underlying68 (Ow.rd ic_len HO2.out) hlen
        have hsl := ow_len HO2.out hlen
        have HSL := Lib.hid hsl
        have HAL : Hid ((P ++ run y a m).length + 1 ≤ 100000000) := Lib.hid (by omega)
        have HQ := Lib.hid hq
        have c0 := (HB2.out.cell (p := ⟨g, o + k * 3, none⟩) hg).trans HW0.out
        clear hsl hlen
        by_cases hqs : q < F
        · have HRS : Hid (P ++ run y a m ++ [(q : Int) + y] = P ++ run y a (m + 1)) := Lib.hid (by rw [run_succ, hq, List.append_assoc])
          clear hq
          go_wp2_with (at_builtin; go_loud (refine sp_api (by rfl) (.tmp 23) (.tmp 28) (by rfl) (by rfl) HO2.out HB2.out hbs2 ((q : Int) + y) (by rfl) (by rfl) HAL.out ?_); intro v2 w2 hO3 hb3 hbs3; have HO3 := Lib.hid hO3; have HB3 := Lib.hid hb3; clear hO3 hb3)
          exact ⟨⟨m + 1, by have := HQ.out; omega, Lib.hid (by rw [← HRS.out]; exact HO3.out), HB3, hbs3⟩, by
            have e1 := ow_len HO3.out (n := q + 1) (by rw [HRS.out, List.length_append, HP.out, run_length]; have := HQ.out; omega)
            show F - slen _ < F - slen _
            rw [e1, HSL.out]; omega⟩
        · have hmF : m = F - a := by omega
          subst hmF
          obtain ⟨P1, hP1⟩ : ∃ P1, P ++ run y a (F - a) = P1 := ⟨_, rfl⟩
          rw [hP1] at HO2
          have HP1 : Hid (P1.length = F) := Lib.hid (by rw [← hP1, List.length_append, HP.out, run_length]; omega)
          have HX4 : Hid (R = P1 ++ (List.replicate (T - F) (-1) ++ kpL S (y + (dx.size - ((T : Int) - F))) T (L.drop (k + 1)))) := Lib.hid (by rw [HX3.out, ← hP1, List.append_assoc])
          clear hq hP1 HAL HSL
          go_wp2
          go_loopw [5] (fun u wr => ∃ m : Nat, F + m ≤ T ∧ Hid (Ow ic 1 3 wr w.heap.size u (P1 ++ List.replicate m (-1))) ∧ Hid (Below w.heap.size w wr) ∧ w.heap.size ≤ wr.heap.size) (fun u _ => T - slen u)
          case atStart => exact ⟨0, by omega, Lib.hid (by rw [List.replicate_zero, List.append_nil]; exact HO2.out), HB2, hbs2⟩
          case round =>
            rename_i u1 w1 _
            obtain ⟨m, hm, HO3, HB3, hbs3⟩ := hrel
            obtain ⟨q, hq⟩ : ∃ q, F + m = q := ⟨_, rfl⟩
            have hlen : (P1 ++ List.replicate m (-1 : Int)).length = q := by rw [List.length_append, HP1.out, List.length_replicate, hq]
            have hrl2 := Rd.run_len Try.underlying68 (Ow.rd ic_len HO3.out) hlen
            have hsl := ow_len HO3.out hlen
            have HSL := Lib.hid hsl
            have HAL : Hid ((P1 ++ List.replicate m (-1 : Int)).length + 1 ≤ 100000000) := Lib.hid (by omega)
            have HQ := Lib.hid hq
            have c1 := (HB3.out.cell (p := ⟨g, o + k * 3 + 1, none⟩) hg).trans HW1.out
            by_cases hqs : q < T
            · have HRS : Hid (P1 ++ List.replicate m (-1 : Int) ++ [-1] = P1 ++ List.replicate (m + 1) (-1)) := Lib.hid (by rw [List.replicate_succ', List.append_assoc])
              clear hq hsl hlen
              go_wp2_with (at_builtin; go_loud (refine sp_api (by rfl) (.tmp 39) (.tmp 40) (by rfl) (by rfl) HO3.out HB3.out hbs3 (-1) (by rfl) (by rfl) HAL.out ?_); intro v2 w2 hO4 hb4 hbs4; have HO4 := Lib.hid hO4; have HB4 := Lib.hid hb4; clear hO4 hb4)
              exact ⟨⟨m + 1, by have := HQ.out; omega, Lib.hid (by rw [← HRS.out]; exact HO4.out), HB4, hbs4⟩, by
                have e1 := ow_len HO4.out (n := q + 1) (by rw [HRS.out, List.length_append, HP1.out, List.length_replicate]; have := HQ.out; omega)
                show T - slen _ < T - slen _
                rw [e1, HSL.out]; omega⟩
            · have hmT : m = T - F := by omega
              subst hmT
              have HPL : Hid ((P1 ++ List.replicate (T - F) (-1 : Int)).length = T) := Lib.hid (by rw [hlen]; omega)
              obtain ⟨z, hz⟩ : ∃ z : Nat, dx.size = z := ⟨_, rfl⟩
              rw [hz] at s5
              have HX5 : Hid (R = (P1 ++ List.replicate (T - F) (-1)) ++ kpL S (y + ((z : Int) - ((T : Int) - F))) T (L.drop (k + 1))) := Lib.hid (by rw [HX4.out, List.append_assoc, hz])
              have c0' := (HB3.out.cell (p := ⟨g, o + k * 3, none⟩) hg).trans HW0.out
              have c2 := (HB3.out.cell (p := ⟨g, o + k * 3 + 2, none⟩) hg).trans HW2.out
              have HA3 : Hid (T = atk L (k + 1)) := Lib.hid (by rw [HA2.out]; omega)
              clear hq hsl hlen
              go_wp2
              go_quiet (fail)
              go_wp2
              exact ⟨⟨k + 1, T, y + ((z : Int) - ((T : Int) - F)), _, by omega, by go_num, by go_num, HA3.out, by omega, by omega, HPL, Lib.hid (ow_i HO3.out _), Lib.hid (below_N HB3.out _), by simp; omega, HX5⟩, by simp [intOf] <;> omega⟩
    · obtain rfl : k = n := by omega
      have HX2 : Hid (R = P ++ run y a (S - a)) := Lib.hid (by rw [HX.out, kp_end (by rw [HN.out]; omega)])
      clear hat
      go_wp2
      go_loopw [5] (fun u wr => ∃ m : Nat, a + m ≤ S ∧ Hid (Ow ic 1 3 wr w.heap.size u (P ++ run y a m)) ∧ Hid (Below w.heap.size w wr) ∧ w.heap.size ≤ wr.heap.size) (fun u _ => S - slen u)
      case atStart => exact ⟨0, by omega, Lib.hid (by rw [run_zero, List.append_nil]; exact HO.out), HB, hbs⟩
      case round =>
        rename_i u0 _
        obtain ⟨m, hm, HO2, HB2, hbs2⟩ := hrel
        obtain ⟨q, hq⟩ : ∃ q, a + m = q := ⟨_, rfl⟩
        have hlen : (P ++ run y a m).length = q := by rw [List.length_append, HP.out, run_length, hq]
        have hrl := Rd.run_len Try.underlying68 (Ow.rd ic_len HO2.out) hlen
        have hsl := ow_len HO2.out hlen
        have HSL := Lib.hid hsl
        have HAL : Hid ((P ++ run y a m).length + 1 ≤ 100000000) := Lib.hid (by omega)
        have HQ := Lib.hid hq
        clear hsl hlen
        by_cases hqs : q < S
        · have HRS : Hid (P ++ run y a m ++ [(q : Int) + y] = P ++ run y a (m + 1)) := Lib.hid (by rw [run_succ, hq, List.append_assoc])
          clear hq
          go_wp2_with (at_builtin; go_loud (refine sp_api (by rfl) (.tmp 68) (.tmp 73) (by rfl) (by rfl) HO2.out HB2.out hbs2 ((q : Int) + y) (by rfl) (by rfl) HAL.out ?_); intro v2 w2 hO3 hb3 hbs3; have HO3 := Lib.hid hO3; have HB3 := Lib.hid hb3; clear hO3 hb3)
          exact ⟨⟨m + 1, by have := HQ.out; omega, Lib.hid (by rw [← HRS.out]; exact HO3.out), HB3, hbs3⟩, by
            have e1 := ow_len HO3.out (n := q + 1) (by rw [HRS.out, List.length_append, HP.out, run_length]; have := HQ.out; omega)
            show S - slen _ < S - slen _
            rw [e1, HSL.out]; omega⟩
        · have HFIN : Hid (R = P ++ run y a m) := Lib.hid (by rw [HX2.out]; congr 2; omega)
          clear hq
          go_wp2
          go_ret
          exact ⟨_, rfl, HB2.out, by rw [HFIN.out]; exact HO2.out⟩
end Go.Proofs.Ytdgoblapmjpcaaa.Sp
