/-
  Contracts of the reference of digits: numbers of numerals; what the first example asks.
-/
import Derived.Test.YtjidjcnjgjmeoaaDoorDigL
namespace Go.Proofs.YtjidjcnjgjmeoaaDoor.Dig
open Go.RowKit
set_option linter.unusedVariables false
set_option linter.unusedSimpArgs false

theorem wrap_twice {a : Int} (h1 : 0 ≤ a - 48) (h2 : a - 48 ≤ 9223372036854775807) : wrap64 (wrap64 a - 48) = a - 48 := by
  unfold wrap64; omega
theorem max_less {x : Nat} (h : (S x).size = 19) : Op.bytesLess (S x).toList [57, 50, 50, 51, 51, 55, 50, 48, 51, 54, 56, 53, 52, 55, 55, 53, 56, 48, 55] = decide (x < maxI) ∧ ((S x).toList == [57, 50, 50, 51, 51, 55, 50, 48, 51, 54, 56, 53, 52, 55, 55, 53, 56, 48, 55]) = decide (x = maxI) := by
  have e : [57, 50, 50, 51, 51, 55, 50, 48, 51, 54, 56, 53, 52, 55, 55, 53, 56, 48, 55] = (S maxI).toList := by rw [ByteArray.toList_eq, S_list, maxL_num]; rfl
  rw [e]
  exact ⟨less_S (h.trans maxI_size.symm), eq_S x maxI⟩
theorem max_short {x : Nat} (h : (S x).size < 19) : x ≤ maxI := Nat.le_of_lt (len_lt (by rw [maxI_size]; exact h))
theorem max_long {x : Nat} (h : 19 < (S x).size) : maxI < x := len_lt (by rw [maxI_size]; exact h)
/-- The numeral of a literal. -/
theorem S_lit {l : List UInt8} {n : Nat} (h : numB l = true) (hv : val l = n) : S n = ⟨l.toArray⟩ := by
  unfold S; rw [← hv, num_val h]
theorem s999 : S 999 = ⟨#[57, 57, 57]⟩ := S_lit (by decide) (by decide)
theorem s1 : S 1 = ⟨#[49]⟩ := S_lit (by decide) (by decide)
theorem s1000 : S 1000 = ⟨#[49, 48, 48, 48]⟩ := S_lit (by decide) (by decide)
theorem s12 : S 12 = ⟨#[49, 50]⟩ := S_lit (by decide) (by decide)
theorem s144 : S 144 = ⟨#[49, 52, 52]⟩ := S_lit (by decide) (by decide)
theorem s100 : S 100 = ⟨#[49, 48, 48]⟩ := S_lit (by decide) (by decide)
theorem s7 : S 7 = ⟨#[55]⟩ := S_lit (by decide) (by decide)
theorem s14 : S 14 = ⟨#[49, 52]⟩ := S_lit (by decide) (by decide)
theorem s2 : S 2 = ⟨#[50]⟩ := S_lit (by decide) (by decide)
theorem lim_small {n : Nat} (h : (S n).size ≤ 600) : limS n = n ∧ limE n = 0 := by
  rw [S_size] at h; exact ⟨if_pos h, if_pos h⟩
theorem add_lit (w : World) : Calls Tryd.prog 20 #[.string ⟨#[57, 57, 57]⟩, .string ⟨#[49]⟩] w fun e w' => e = .returned (.tuple #[.string ⟨#[49, 48, 48, 48]⟩, .int .i64 0]) ∧ Below w.heap.size w w' := by
  have := add_any 999 1 w (by rw [s999]; decide) (by rw [s1]; decide)
  obtain ⟨h1, h2⟩ := lim_small (n := 999 + 1) (by show (S 1000).size ≤ 600; rw [s1000]; decide)
  rw [h1, h2, show 999 + 1 = 1000 from rfl, s999, s1, s1000] at this
  exact this
theorem quo_lit (w : World) : Calls Tryd.prog 18 #[.string ⟨#[49, 48, 48]⟩, .string ⟨#[55]⟩] w fun e w' => e = .returned (.tuple #[.string ⟨#[49, 52]⟩, .string ⟨#[50]⟩, .int .i64 0]) ∧ Below w.heap.size w w' := by
  have := quo_any 100 7 w (by rw [s100]; decide) (by rw [s7]; decide) (by omega)
  rw [show 100 / 7 = 14 from rfl, show 100 % 7 = 2 from rfl, s100, s7, s14, s2] at this
  exact this
end Go.Proofs.YtjidjcnjgjmeoaaDoor.Dig
