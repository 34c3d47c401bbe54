/-
  How many nodes a value has, counted up to a limit.
-/
import Derived.Test.YthkpcanlimhhfaaLimV
namespace Go.Proofs.Ythkpcanlimhhfaa.VL
open Go.RowKit
set_option linter.unusedVariables false
set_option linter.unusedSimpArgs false

/-- Counting goes on while the limit is not passed. -/
def ctl {α : Type} (g : α → Nat → Nat) (L : Nat) : List α → Nat → Nat
  | [], n => n
  | x :: r, n => ctl g L r (if n ≤ L then n + g x (L - n) else n)
theorem ctl_over {α : Type} {g : α → Nat → Nat} {L : Nat} : ∀ (l : List α) (n : Nat), L < n → ctl g L l n = n := by
  intro l
  induction l with
  | nil => intro n _; rfl
  | cons x r ih => intro n h; unfold ctl; rw [if_neg (by omega)]; exact ih n h
theorem ctl_step {α : Type} {g : α → Nat → Nat} {L : Nat} {l : List α} {k n : Nat} {x : α} (h : l[k]? = some x) (hn : n ≤ L) : ctl g L (l.drop k) n = ctl g L (l.drop (k + 1)) (n + g x (L - n)) := by
  obtain ⟨hk, rfl⟩ := List.getElem?_eq_some_iff.1 h
  rw [List.drop_eq_getElem_cons hk, ctl, if_pos hn]
theorem ctl_end {α : Type} {g : α → Nat → Nat} {L : Nat} {l : List α} {k n : Nat} (h : l.length ≤ k) : ctl g L (l.drop k) n = n := by
  rw [List.drop_eq_nil_of_le h]; rfl
theorem ctl_le {α : Type} {g : α → Nat → Nat} {L : Nat} (hg : ∀ x M, g x M ≤ M + 1) : ∀ (l : List α) (n : Nat), n ≤ L + 1 → n ≤ ctl g L l n ∧ ctl g L l n ≤ L + 1 := by
  intro l
  induction l with
  | nil => intro n h; exact ⟨Nat.le_refl _, h⟩
  | cons x r ih =>
    intro n h
    unfold ctl
    by_cases hn : n ≤ L
    · rw [if_pos hn]
      have h1 := hg x (L - n)
      have := ih (n + g x (L - n)) (by omega)
      omega
    · rw [if_neg hn]
      exact ih n h
/-- The nodes of a value, counted up to L. -/
def ctT : Nat → VT → Nat → Nat
  | 0, _, _ => 1
  | f + 1, .mk k _ l fs, L => if k = 6 then ctl (ctT f) L l 1 else if k = 7 then ctl (fun p => ctT f p.2) L fs 1 else 1
theorem ctT_le : ∀ (f : Nat) (t : VT) (L : Nat), 1 ≤ ctT f t L ∧ ctT f t L ≤ L + 1 := by
  intro f
  induction f with
  | zero => intro t L; exact ⟨Nat.le_refl _, by unfold ctT; omega⟩
  | succ f ih =>
    intro t L
    cases t with
    | mk k m l fs =>
      unfold ctT
      split
      · have := ctl_le (g := ctT f) (L := L) (fun x M => (ih x M).2) l 1 (by omega); omega
      · split
        · have := ctl_le (g := fun (p : ByteArray × VT) => ctT f p.2) (L := L) (fun x M => (ih x.2 M).2) fs 1 (by omega); omega
        · omega
set_option maxRecDepth 100000 in
set_option maxHeartbeats 8000000 in
theorem count_any : ∀ (f : Nat) (cs : List Value) (t : VT) (L : Nat) (w : World) (z : Int), VR w w.heap.size f cs t → L ≤ 4611686018427387904 → z = (L : Int) → Calls Try.prog 12 #[.agg cs.toArray, .int .i64 z] w fun e w' => e = .returned (.int .i64 (ctT f t L)) ∧ Below w.heap.size w w' := by
  intro f
  induction f with
  | zero => intro cs t L w z h; exact h.elim
  | succ f ih =>
    intro cs t L w z h hL0 hz
    have IH := Lib.hid ih
    cases t with
    | mk k m l fs =>
        obtain ⟨hk, hm, bv, lv, fv, rfl, hB, hL, hF⟩ := h
        obtain ⟨nb, hnb⟩ : ∃ n, m.by_.length = n := ⟨_, rfl⟩
        obtain ⟨nl, hnl⟩ : ∃ n, l.length = n := ⟨_, rfl⟩
        obtain ⟨nf, hnf⟩ : ∃ n, fs.length = n := ⟨_, rfl⟩
        obtain ⟨ab, cb, rfl, hb9⟩ := SlR.slice hB hnb
        obtain ⟨al, cl, rfl, hl9⟩ := SlR.slice hL hnl
        obtain ⟨af, cf, rfl, hf9⟩ := SlR.slice hF hnf
        have C1 := Lib.hid (SlR.at13 hL hnl)
        have C2 := Lib.hid (SlR.at14 hF hnf)
        have A := BX.new w (cs := [.int .i64 k, .bool m.b, .bool m.ng, .string m.dg, .int .i64 m.ex, .int .i64 m.tk, .int .i64 m.td, .int .i64 m.tn, .int .i64 m.tz, .string m.tx, .slice ab nb cb, .slice al nl cl, .slice af nf cf]) rfl
        have bl : Below w.heap.size w (w.alloc (.cells #[.int .i64 k, .bool m.b, .bool m.ng, .string m.dg, .int .i64 m.ex, .int .i64 m.tk, .int .i64 m.td, .int .i64 m.tn, .int .i64 m.tz, .string m.tx, .slice ab nb cb, .slice al nl cl, .slice af nf cf] 30)) := (Below.refl _ _).alloc (Nat.le_refl _) _
        have x0 := A.at_ (i := 0) (by decide) rfl
        have x11 := A.at_ (i := 11) (by decide) rfl
        have x12 := A.at_ (i := 12) (by decide) rfl
        have HA := Lib.hid A
        have HE1 := Lib.hid (fun (G : VT → Nat → Nat) (n : Nat) => ctl_end (g := G) (L := L) (l := l) (k := nl) (n := n) (by omega))
        have HE2 := Lib.hid (fun (G : ByteArray × VT → Nat → Nat) (n : Nat) => ctl_end (g := G) (L := L) (l := fs) (k := nf) (n := n) (by omega))
        clear hL hF hB ih A hnl hnf hnb hm
        change Calls Try.prog 12 #[.agg #[.int .i64 k, .bool m.b, .bool m.ng, .string m.dg, .int .i64 m.ex, .int .i64 m.tk, .int .i64 m.td, .int .i64 m.tn, .int .i64 m.tz, .string m.tx, .slice ab nb cb, .slice al nl cl, .slice af nf cf], .int .i64 z] w _
        subst hz
        by_cases k6 : k = 6
        · obtain rfl : 6 = k := k6.symm
          obtain ⟨G, hG⟩ : ∃ G : VT → Nat → Nat, G = ctT f := ⟨_, rfl⟩
          have HR : Hid (ctT (f + 1) (.mk 6 m l fs) L = ctl G L l 1) := Lib.hid ((if_pos rfl).trans (by rw [hG]))
          have HEND := Lib.hid (HE1.out G)
          have hGG : ∀ t' M, G t' M = ctT f t' M := fun t' M => by rw [hG]
          clear hG
          go_enter Try.func12, Try.ntmps12
          go_wp2
          go_loopw [5, 6] (fun nn i wr => ∃ (q n : Nat), q ≤ nl ∧ i = .int .i64 q ∧ nn = .int .i64 n ∧ (1 ≤ n ∧ n ≤ L + 1) ∧ Below w.heap.size w wr ∧ Hid (BX wr w.heap.size [.int .i64 6, .bool m.b, .bool m.ng, .string m.dg, .int .i64 m.ex, .int .i64 m.tk, .int .i64 m.td, .int .i64 m.tn, .int .i64 m.tz, .string m.tx, .slice ab nb cb, .slice al nl cl, .slice af nf cf]) ∧ Hid (ctl G L l 1 = ctl G L (l.drop q) n)) (fun _ i _ => nl - (intOf i).toNat)
          case atStart => exact ⟨0, 1, by omega, rfl, rfl, by omega, bl, HA, Lib.hid rfl⟩
          case round =>
            clear bl HA x0 x11 x12
            obtain ⟨q, n, hq, rfl, rfl, hn, bl, HA, HX⟩ := hrel
            have A := HA.out
            have x0 := A.at_ (i := 0) (by decide) rfl
            have x11 := A.at_ (i := 11) (by decide) rfl
            clear A
            have hs1 : IntKind.i64.wrap ((L : Int) - (n : Int)) = (L : Int) - n := IntWalk.i64_in _ (by omega)
            by_cases hlt : q < nl
            · by_cases hnl : n ≤ L
              · obtain ⟨g, o, kx, mx, lx, fx, ax1, nx1, cx1, ax2, nx2, cx2, ax3, nx3, cx3, rfl, hx, hg, hv, e0, e1, e2, e3, e4, e5, e6, e7, e8, e9, e10, e11, e12⟩ := C1.out _ bl q hlt
                have HST := Lib.hid (ctl_step (g := G) (L := L) (n := n) hx hnl)
                obtain ⟨r, hr⟩ : ∃ r, ctT f (.mk kx mx lx fx) (L - n) = r := ⟨_, rfl⟩
                have hrb := ctT_le f (.mk kx mx lx fx) (L - n)
                rw [hr] at hrb
                have HG : Hid (G (.mk kx mx lx fx) (L - n) = r) := Lib.hid ((hGG _ _).trans hr)
                have hs2 : IntKind.i64.wrap ((n : Int) + (r : Int)) = ((n + r : Nat) : Int) := by rw [IntWalk.i64_in _ (by omega)]; push_cast; rfl
                have HC := Lib.hid (fun z hz => IH.out _ _ (L - n) wr z hv (by omega) hz)
                rw [hr] at HC
                clear hx hv hr
                go_wp2_with (go_at_call 12; (with_reducible refine (HC.out _ (by omega)).mono ?_); rintro e w2 ⟨rfl, hX⟩; have HA2 := Lib.hid (HA.out.below hX HA.out.lt); have bl := bl.trans (hX.mono bl.size); clear hX)
                exact ⟨⟨q + 1, n + r, by omega, by go_num, rfl, by omega, bl, HA2, Lib.hid (by rw [HX.out, HST.out, HG.out])⟩, by simp [intOf]; omega⟩
              · have hR : ctl G L l 1 = n := HX.out.trans (ctl_over _ _ (by omega))
                have HR2 := Lib.hid (HR.out.trans hR)
                clear hR
                go_wp2
                go_ret
                exact ⟨ret_int (by rw [HR2.out]), bl⟩
            · obtain rfl : nl = q := by omega
              have HR2 := Lib.hid (HR.out.trans (HX.out.trans (HEND.out n)))
              go_wp2
              go_ret
              exact ⟨ret_int (by rw [HR2.out]), bl⟩
        by_cases k7 : k = 7
        · obtain rfl : 7 = k := k7.symm
          obtain ⟨G, hG⟩ : ∃ G : ByteArray × VT → Nat → Nat, G = (fun p => ctT f p.2) := ⟨_, rfl⟩
          have HR : Hid (ctT (f + 1) (.mk 7 m l fs) L = ctl G L fs 1) := Lib.hid ((if_neg (by decide)).trans ((if_pos rfl).trans (by rw [hG])))
          have HEND := Lib.hid (HE2.out G)
          have hGG : ∀ p M, G p M = ctT f p.2 M := fun p M => by rw [hG]
          clear hG
          go_enter Try.func12, Try.ntmps12
          go_wp2
          go_loopw [5, 7] (fun nn i wr => ∃ (q n : Nat), q ≤ nf ∧ i = .int .i64 q ∧ nn = .int .i64 n ∧ (1 ≤ n ∧ n ≤ L + 1) ∧ Below w.heap.size w wr ∧ Hid (BX wr w.heap.size [.int .i64 7, .bool m.b, .bool m.ng, .string m.dg, .int .i64 m.ex, .int .i64 m.tk, .int .i64 m.td, .int .i64 m.tn, .int .i64 m.tz, .string m.tx, .slice ab nb cb, .slice al nl cl, .slice af nf cf]) ∧ Hid (ctl G L fs 1 = ctl G L (fs.drop q) n)) (fun _ i _ => nf - (intOf i).toNat)
          case atStart => exact ⟨0, 1, by omega, rfl, rfl, by omega, bl, HA, Lib.hid rfl⟩
          case round =>
            clear bl HA x0 x11 x12
            obtain ⟨q, n, hq, rfl, rfl, hn, bl, HA, HX⟩ := hrel
            have A := HA.out
            have x0 := A.at_ (i := 0) (by decide) rfl
            have x12 := A.at_ (i := 12) (by decide) rfl
            clear A
            have hs1 : IntKind.i64.wrap ((L : Int) - (n : Int)) = (L : Int) - n := IntWalk.i64_in _ (by omega)
            by_cases hlt : q < nf
            · by_cases hnl : n ≤ L
              · obtain ⟨g, o, s, kx, mx, lx, fx, ax1, nx1, cx1, ax2, nx2, cx2, ax3, nx3, cx3, rfl, hx, hg, hv, e, e0, e1, e2, e3, e4, e5, e6, e7, e8, e9, e10, e11, e12⟩ := C2.out _ bl q hlt
                have HST := Lib.hid (ctl_step (g := G) (L := L) (n := n) hx hnl)
                obtain ⟨r, hr⟩ : ∃ r, ctT f (.mk kx mx lx fx) (L - n) = r := ⟨_, rfl⟩
                have hrb := ctT_le f (.mk kx mx lx fx) (L - n)
                rw [hr] at hrb
                have HG : Hid (G (s, .mk kx mx lx fx) (L - n) = r) := Lib.hid ((hGG _ _).trans hr)
                have hs2 : IntKind.i64.wrap ((n : Int) + (r : Int)) = ((n + r : Nat) : Int) := by rw [IntWalk.i64_in _ (by omega)]; push_cast; rfl
                have HC := Lib.hid (fun z hz => IH.out _ _ (L - n) wr z hv (by omega) hz)
                rw [hr] at HC
                clear hx hv hr
                go_wp2_with (go_at_call 12; (with_reducible refine (HC.out _ (by omega)).mono ?_); rintro e w2 ⟨rfl, hX⟩; have HA2 := Lib.hid (HA.out.below hX HA.out.lt); have bl := bl.trans (hX.mono bl.size); clear hX)
                exact ⟨⟨q + 1, n + r, by omega, by go_num, rfl, by omega, bl, HA2, Lib.hid (by rw [HX.out, HST.out, HG.out])⟩, by simp [intOf]; omega⟩
              · have hR : ctl G L fs 1 = n := HX.out.trans (ctl_over _ _ (by omega))
                have HR2 := Lib.hid (HR.out.trans hR)
                clear hR
                go_wp2
                go_ret
                exact ⟨ret_int (by rw [HR2.out]), bl⟩
            · obtain rfl : nf = q := by omega
              have HR2 := Lib.hid (HR.out.trans (HX.out.trans (HEND.out n)))
              go_wp2
              go_ret
              exact ⟨ret_int (by rw [HR2.out]), bl⟩
        · have HR : Hid (ctT (f + 1) (.mk k m l fs) L = 1) := Lib.hid ((if_neg k6).trans (if_neg k7))
          have q6 : (k == 6) = false := by rw [beq_eq_false_iff_ne]; exact k6
          have q7 : (k == 7) = false := by rw [beq_eq_false_iff_ne]; exact k7
          go_enter Try.func12, Try.ntmps12
          go_wp2
          go_ret
          exact ⟨ret_int (by rw [HR.out]; rfl), bl⟩
end Go.Proofs.Ythkpcanlimhhfaa.VL
