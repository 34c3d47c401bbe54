/-
  Contracts of utf: control characters; what the first example asks; the law's walk: UtfEncodes.
-/
import Derived.Test.YtiodnncpgdiejaaDoorUtfC
import Derived.Test.YtiodnncpgdiejaaDoorUtfL
namespace Go.Proofs.YtiodnncpgdiejaaDoor.Utf
open Go.RowKit
set_option linter.unusedVariables false
set_option linter.unusedSimpArgs false

def ctl (r : Int) : Bool := decide (0 ≤ r ∧ r ≤ 31 ∨ 127 ≤ r ∧ r ≤ 159)
theorem ctl_t {r : Int} (h : 0 ≤ r ∧ r ≤ 31 ∨ 127 ≤ r ∧ r ≤ 159) : ctl r = true := decide_eq_true h
theorem ctl_f {r : Int} (h : ¬ (0 ≤ r ∧ r ≤ 31 ∨ 127 ≤ r ∧ r ≤ 159)) : ctl r = false := decide_eq_false h
theorem ctl_cases (r : Int) : (r < 0 ∧ Hid (ctl r = false)) ∨ (0 ≤ r ∧ r < 32 ∧ Hid (ctl r = true)) ∨ (32 ≤ r ∧ r < 127 ∧ Hid (ctl r = false)) ∨ (127 ≤ r ∧ r < 160 ∧ Hid (ctl r = true)) ∨ (160 ≤ r ∧ Hid (ctl r = false)) := by
  by_cases h1 : r < 0
  · exact .inl ⟨h1, ctl_f (by omega)⟩
  by_cases h2 : r < 32
  · exact .inr (.inl ⟨by omega, h2, ctl_t (by omega)⟩)
  by_cases h3 : r < 127
  · exact .inr (.inr (.inl ⟨by omega, h3, ctl_f (by omega)⟩))
  by_cases h4 : r < 160
  · exact .inr (.inr (.inr (.inl ⟨by omega, h4, ctl_t (by omega)⟩)))
  · exact .inr (.inr (.inr (.inr ⟨by omega, ctl_f (by omega)⟩)))
theorem dec_euro : chAt ⟨#[226, 130, 172]⟩ 0 = (8364, 3) := by decide
theorem enc_e9 : encS 233 = ⟨#[195, 169]⟩ := rfl
theorem decode_lit (w : World) (hT : Tabs w) : Calls Tryd.prog 13 #[.string ⟨#[226, 130, 172]⟩, .int .i64 0] w fun e w' => e = .returned (.tuple #[.int .i64 8364, .int .i64 3]) ∧ Below w.heap.size w w' := by
  have := decode_any ⟨#[226, 130, 172]⟩ 0 w hT (by decide) (by omega)
  rw [dec_euro] at this; exact this
theorem encode_lit (w : World) : Calls Tryd.prog 14 #[.int .i64 233] w fun e w' => e = .returned (.tuple #[.string ⟨#[195, 169]⟩, .int .i64 0]) ∧ w = w' := by
  have := encode_t 233 w (by decide)
  rw [show (233 : Int).toNat = 233 from rfl, enc_e9] at this; exact this
set_option maxHeartbeats 1000000 in
theorem awake_any (w : World) (hT : Tabs w) : Calls Tryd.prog 6 #[] w fun e w' => e = .returned (.bool true) ∧ Below w.heap.size w w' := by
  go_enter Tryd.func6, Tryd.ntmps6
  go_wp2_with (first | (go_at_call 13; (with_reducible refine (decode_lit _ hT).mono ?_); rintro e w1 ⟨rfl, hb⟩) | (go_at_call 14; (with_reducible refine (encode_lit _).mono ?_); rintro e w' ⟨rfl, rfl⟩))
  go_ret
  exact ⟨rfl, hb⟩
end Go.Proofs.YtiodnncpgdiejaaDoor.Utf
