/-
  Contracts of the reference of decimal: one exponent for two.
-/
import Derived.Test.YtaikmelefllgpaaDoorDecN
import Derived.Deep.RegionHeld3
namespace Go.Proofs.YtaikmelefllgpaaDoor.Dec
open Go.RowKit
set_option linter.unusedVariables false
set_option linter.unusedSimpArgs false
open Go.Proofs.YtaikmelefllgpaaDoor.Dig

theorem lower_any (g1 : Bool) (s1 : ByteArray) (x1 : Int) (g2 : Bool) (s2 : ByteArray) (x2 : Int) (w : World) : Calls Tryd.prog 27 #[.agg #[.bool g1, .string s1, .int .i64 x1], .agg #[.bool g2, .string s2, .int .i64 x2]] w fun e w' => e = .returned (.int .i64 (min x1 x2)) ∧ Below w.heap.size w w' := by
  by_cases h : x1 < x2
  · have HR : Hid (min x1 x2 = x1) := Lib.hid (by omega)
    go_enter Tryd.func27, Tryd.ntmps27
    go_wp2
    go_ret
    exact ⟨ret_int HR.out.symm, ((Below.refl _ _).alloc (Nat.le_refl _) _).alloc (by simp) _⟩
  · have HR : Hid (min x1 x2 = x2) := Lib.hid (by omega)
    go_enter Tryd.func27, Tryd.ntmps27
    go_wp2
    go_ret
    exact ⟨ret_int HR.out.symm, ((Below.refl _ _).alloc (Nat.le_refl _) _).alloc (by simp) _⟩
/-- A decimal in a block of its own. -/
structure P1 (w W : World) (g1 : Bool) (s1 : ByteArray) (x1 : Int) : Prop where
  a : DC W w.heap.size g1 s1 x1
  bel : Below w.heap.size w W
section
variable {w W W' : World} {g1 : Bool} {s1 : ByteArray} {x1 : Int}
theorem P1.d (h : P1 w W g1 s1 x1) : P1 w W.drew g1 s1 x1 := ⟨h.a.dr, h.bel.drew⟩
theorem P1.step (hb : Below W.heap.size W W') (h : P1 w W g1 s1 x1) : P1 w W' g1 s1 x1 := ⟨h.a.below hb h.a.lt, h.bel.trans (hb.mono h.bel.size)⟩
theorem P1.all (h : P1 w W g1 s1 x1) : P1 w W g1 s1 x1 ∧ W.cell? ⟨w.heap.size, 0, none⟩ = some (.bool g1) ∧ W.cell? ⟨w.heap.size, 1, none⟩ = some (.string s1) ∧ W.cell? ⟨w.heap.size, 2, none⟩ = some (.int .i64 x1) :=
  ⟨h, h.a.cells.1, h.a.cells.2.1, h.a.cells.2.2⟩
end
set_option maxRecDepth 100000 in
set_option maxHeartbeats 8000000 in
theorem at_any (g : Bool) (n : Nat) (m : Int) (k : Nat) (w : World) (hn : 0 < n) (hs : (S n).size ≤ 120) (hm : -400 ≤ m ∧ m ≤ 400) (hk : k ≤ 1000) : Calls Tryd.prog 28 #[.agg #[.bool g, .string (S n), .int .i64 (m + (k : Int))], .int .i64 m] w fun e w' => e = .returned (.string (S (n * 10 ^ k))) ∧ Below w.heap.size w w' := by
  have HO := Lib.hid (fun w => noughts_any k w (by omega))
  have hz := noughts_size k
  have HE : Hid (S n ++ noughts k = S (n * 10 ^ k)) := Lib.hid (S_mul hn (noughts_list k))
  have hcat : ¬ 9223372036854775807 < (S n).size + (noughts k).size := by omega
  have hcat2 : (S n).size + (noughts k).size ≤ 9223372036854775807 := by omega
  have HP : Hid (P1 w (w.alloc (.cells #[.bool g, .string (S n), .int .i64 (m + (k : Int))] 23)) g (S n) (m + (k : Int))) := Lib.hid ⟨DC.new _ _ _ _, (Below.refl _ _).alloc (Nat.le_refl _) _⟩
  have hw : IntKind.i64.wrap (m + (k : Int) - m) = (k : Int) := by rw [IntWalk.i64_in _ (by omega)]; omega
  generalize noughts k = O at *
  generalize S n = A at *
  clear hz
  go_enter Tryd.func28, Tryd.ntmps28
  go_wp2
  have T := HP.out
  go_region_held3 (fun (W : World) => P1 w W g A (m + (k : Int)) ∧ W.cell? ⟨w.heap.size, 0, none⟩ = some (.bool g) ∧ W.cell? ⟨w.heap.size, 1, none⟩ = some (.string A) ∧ W.cell? ⟨w.heap.size, 2, none⟩ = some (.int .i64 (m + (k : Int)))) ((first | (go_split_ands; exact P1.all (by assumption)) | (go_split_ands; exact P1.all (P1.d (by assumption))) | (go_split_ands; exact P1.all (P1.step hX (by assumption))))) (first | (go_at_call 38; (with_reducible refine (HO.out _).mono ?_); rintro e wn ⟨rfl, hX⟩))
  rename_i hH
  have bl := hH.1.bel
  clear hH T
  go_wp2
  go_ret
  exact ⟨ret_str HE.out, bl⟩
end Go.Proofs.YtaikmelefllgpaaDoor.Dec
