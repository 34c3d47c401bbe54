/-
  The laws' walks of package limit.
-/
import Derived.Test.YthkpcanlimhhfaaLimD
namespace Go.Proofs.Ythkpcanlimhhfaa.Lim
open Go.RowKit
set_option linter.unusedVariables false
set_option linter.unusedSimpArgs false

/-- What the worlds between the calls of a law keep: two boxes. -/
theorem keepS {w wp w2 : World} {k : Nat} (hB : Below w.heap.size w wp) (hz : w.heap.size + k ≤ wp.heap.size) (hb : Below wp.heap.size wp w2) : Below w.heap.size w w2 ∧ w.heap.size + k ≤ w2.heap.size ∧ ∀ b o v, b < w.heap.size + k → wp.cell? ⟨b, o, none⟩ = some v → w2.cell? ⟨b, o, none⟩ = some v :=
  ⟨hB.trans (hb.mono hB.size), by have := hb.size; omega, fun b o v h1 h2 => by rw [(bcell hb).1 b o (by omega), h2]⟩
theorem alias_first (w : World) : Calls Try.prog 9 #[.agg #[.int .i64 1, .int .i64 1, .int .i64 1, .int .i64 1, .int .i64 5], .agg #[.int .i64 0, .int .i64 0, .int .i64 0, .int .i64 0, .int .i64 0], .int .i64 6] w fun e w' => e = .returned (.tuple #[.agg #[.int .i64 0, .int .i64 0, .int .i64 0, .int .i64 0, .int .i64 0], .int .i64 12]) ∧ Below w.heap.size w w' :=
  (alias_any 1 1 1 1 5 0 0 0 0 0 6 (by omega) (by omega) (by omega) (by omega) (by omega) (by omega) (by omega) (by omega) (by omega) (by omega) (by omega) w).mono fun _ _ ⟨a, b⟩ => ⟨by rw [a, show aliasE 1 1 1 1 5 0 0 0 0 0 6 = 12 by decide]; rfl, b⟩
theorem alias_second (w : World) : Calls Try.prog 9 #[.agg #[.int .i64 1, .int .i64 1, .int .i64 1, .int .i64 1, .int .i64 5], .agg #[.int .i64 0, .int .i64 0, .int .i64 0, .int .i64 0, .int .i64 0], .int .i64 5] w fun e w' => e = .returned (.tuple #[.agg #[.int .i64 0, .int .i64 0, .int .i64 0, .int .i64 1, .int .i64 5], .int .i64 0]) ∧ Below w.heap.size w w' :=
  (alias_any 1 1 1 1 5 0 0 0 0 0 5 (by omega) (by omega) (by omega) (by omega) (by omega) (by omega) (by omega) (by omega) (by omega) (by omega) (by omega) w).mono fun _ _ ⟨a, b⟩ => ⟨by rw [a, show aliasE 1 1 1 1 5 0 0 0 0 0 5 = 0 by decide]; rfl, b⟩
theorem alias_third (w : World) : Calls Try.prog 9 #[.agg #[.int .i64 1, .int .i64 1, .int .i64 1, .int .i64 1, .int .i64 5], .agg #[.int .i64 0, .int .i64 0, .int .i64 0, .int .i64 1, .int .i64 5], .int .i64 0] w fun e w' => e = .returned (.tuple #[.agg #[.int .i64 0, .int .i64 0, .int .i64 0, .int .i64 0, .int .i64 0], .int .i64 11]) ∧ Below w.heap.size w w' :=
  (alias_any 1 1 1 1 5 0 0 0 1 5 0 (by omega) (by omega) (by omega) (by omega) (by omega) (by omega) (by omega) (by omega) (by omega) (by omega) (by omega) w).mono fun _ _ ⟨a, b⟩ => ⟨by rw [a, show aliasE 1 1 1 1 5 0 0 0 1 5 0 = 11 by decide]; rfl, b⟩
set_option maxRecDepth 100000 in
set_option maxHeartbeats 2000000 in
theorem awake_any (w : World) : Calls Try.prog 6 #[] w fun e w' => e = .returned (.bool true) ∧ Below w.heap.size w w' := by
  have hbw := Below.refl w.heap.size w
  go_enter Try.func6, Try.ntmps6
  go_wp2_with (first | (go_at_call 9; (with_reducible refine (alias_first _).mono ?_); rintro e w1 ⟨rfl, hb1⟩; obtain ⟨hc1, hf1⟩ := bcell hb1; have hz1 : w.heap.size < w1.heap.size := (by have := hb1.size; simp at this; omega); replace hbw := bthen (hbw.alloc hbw.size _) hb1; clear hb1) | (go_at_call 9; (with_reducible refine (alias_second _).mono ?_); rintro e w2 ⟨rfl, hb2⟩; obtain ⟨hc2, hf2⟩ := bcell hb2; have hz2 : w1.heap.size < w2.heap.size := (by have := hb2.size; simp at this; omega); have hz2_0 : w.heap.size < w2.heap.size := (by omega); replace hbw := bthen (hbw.alloc hbw.size _) hb2; clear hb2) | (go_at_call 9; (with_reducible refine (alias_third _).mono ?_); rintro e w3 ⟨rfl, hb3⟩; obtain ⟨hc3, hf3⟩ := bcell hb3; have hz3 : w2.heap.size < w3.heap.size := (by have := hb3.size; simp at this; omega); have hz3_1 : w1.heap.size < w3.heap.size := (by omega); have hz3_0 : w.heap.size < w3.heap.size := (by omega); replace hbw := bthen (hbw.alloc hbw.size _) hb3; clear hb3))
  go_ret
  exact ⟨rfl, (hbw.alloc hbw.size _)⟩
end Go.Proofs.Ythkpcanlimhhfaa.Lim
