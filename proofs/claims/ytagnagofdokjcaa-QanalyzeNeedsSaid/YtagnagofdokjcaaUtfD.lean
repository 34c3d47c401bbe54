/-
  Contracts of utf: control characters; what the first example asks; the law's walk: UtfEncodes.
-/
import Derived.Test.YtagnagofdokjcaaUtfC
import Derived.Test.YtagnagofdokjcaaUtfL
namespace Go.Proofs.Ytagnagofdokjcaa.Utf
open Go.RowKit
set_option linter.unusedVariables false
set_option linter.unusedSimpArgs false

def ctl (r : Int) : Bool := decide (0 ≤ r ∧ r ≤ 31 ∨ 127 ≤ r ∧ r ≤ 159)
theorem ctl_t {r : Int} (h : 0 ≤ r ∧ r ≤ 31 ∨ 127 ≤ r ∧ r ≤ 159) : ctl r = true := decide_eq_true h
theorem ctl_f {r : Int} (h : ¬ (0 ≤ r ∧ r ≤ 31 ∨ 127 ≤ r ∧ r ≤ 159)) : ctl r = false := decide_eq_false h
theorem ctl_cases (r : Int) : (r < 0 ∧ Hid (ctl r = false)) ∨ (0 ≤ r ∧ r < 32 ∧ Hid (ctl r = true)) ∨ (32 ≤ r ∧ r < 127 ∧ Hid (ctl r = false)) ∨ (127 ≤ r ∧ r < 160 ∧ Hid (ctl r = true)) ∨ (160 ≤ r ∧ Hid (ctl r = false)) := by
  by_cases h1 : r < 0
  · exact .inl ⟨h1, ctl_f (by omega)⟩
  by_cases h2 : r < 32
  · exact .inr (.inl ⟨by omega, h2, ctl_t (by omega)⟩)
  by_cases h3 : r < 127
  · exact .inr (.inr (.inl ⟨by omega, h3, ctl_f (by omega)⟩))
  by_cases h4 : r < 160
  · exact .inr (.inr (.inr (.inl ⟨by omega, h4, ctl_t (by omega)⟩)))
  · exact .inr (.inr (.inr (.inr ⟨by omega, ctl_f (by omega)⟩)))
theorem dec_euro : chAt ⟨#[226, 130, 172]⟩ 0 = (8364, 3) := by decide
theorem enc_e9 : encS 233 = ⟨#[195, 169]⟩ := rfl
end Go.Proofs.Ytagnagofdokjcaa.Utf
