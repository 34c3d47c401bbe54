/-
  Contracts of package digits and its reference: any string.
-/
import Derived.Test.YtjidjcnjgjmeoaaDoorDigK
namespace Go.Proofs.YtjidjcnjgjmeoaaDoor.Dig
open Go.RowKit
set_option linter.unusedVariables false
set_option linter.unusedSimpArgs false

def trS (l : List UInt8) : Nat := if digs l = true then limS (val l) else 0
def trE (l : List UInt8) : Int := if digs l = true then limE (val l) else 3
theorem trS_f {l : List UInt8} (h : digs l = false) : trS l = 0 := by unfold trS; rw [h]; rfl
theorem trE_f {l : List UInt8} (h : digs l = false) : trE l = 3 := by unfold trE; rw [h]; rfl
theorem trS_t {l : List UInt8} (h : digs l = true) : trS l = limS (val l) := by unfold trS; rw [h]; rfl
theorem trE_t {l : List UInt8} (h : digs l = true) : trE l = limE (val l) := by unfold trE; rw [h]; rfl
theorem Num_size {s : ByteArray} {n : Nat} (h : Num s n) : (S n).size ≤ s.size := by
  rw [S_size, ← h.strip, ← size_list]; exact (strip_sub _).length_le
def maxI : Nat := 9223372036854775807
def maxL : List UInt8 := [57, 50, 50, 51, 51, 55, 50, 48, 51, 54, 56, 53, 52, 55, 55, 53, 56, 48, 55]
theorem maxL_num : num maxI = maxL := by
  have h : numB maxL = true := by decide
  have hv : val maxL = maxI := by decide
  rw [← hv, num_val h]
theorem maxI_S : (⟨#[57, 50, 50, 51, 51, 55, 50, 48, 51, 54, 56, 53, 52, 55, 55, 53, 56, 48, 55]⟩ : ByteArray) = S maxI := ba_ext (by rw [S_list, maxL_num]; rfl)
theorem maxI_size : (S maxI).size = 19 := by rw [S_size, maxL_num]; rfl
def tiV (x : Nat) : Nat := if x ≤ maxI then x else 0
def tiE (x : Nat) : Int := if x ≤ maxI then 0 else 2
theorem pre_le {x la i : Nat} : x / 10 ^ (la - i) ≤ x := Nat.div_le_self _ _

theorem cmp_max {x : Nat} {w : World} (hx : (S x).size ≤ 600) : Calls Tryd.prog 33 #[.string (S x), .string ⟨#[57, 50, 50, 51, 51, 55, 50, 48, 51, 54, 56, 53, 52, 55, 55, 53, 56, 48, 55]⟩] w fun e w' => e = .returned (.int .i64 (cmpN x maxI)) ∧ w = w' := by
  rw [maxI_S]
  have := maxI_size
  exact cmp_any x maxI w (by omega) (by omega)
end Go.Proofs.YtjidjcnjgjmeoaaDoor.Dig
