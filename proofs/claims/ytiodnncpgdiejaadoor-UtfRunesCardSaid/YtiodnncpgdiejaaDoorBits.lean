/-
  Small lemmas on bits of ints; strings of a few bytes.
-/
import Derived.Test.YtiodnncpgdiejaaDoorBase
import Derived.Laws.BitsLemmas
import Derived.Deep.OwnRows
import Derived.Laws.BytesArg
namespace Go.Proofs.YtiodnncpgdiejaaDoor
open Go.RowKit
set_option linter.unusedVariables false
set_option linter.unusedSimpArgs false
theorem wraps_i64 (n : Int) (h₀ : 0 ≤ n) (h₁ : n < 2 ^ 62) : IntKind.i64.wrap n = n := IntWalk.i64_in _ ⟨by omega, by omega⟩
theorem bor (i : Nat) {x y : Int} (hx₀ : 0 ≤ x) (hx : x % 2 ^ i = 0) (hx₁ : x < 2 ^ 62) (hy₀ : 0 ≤ y) (hy : y < 2 ^ i) (hy₁ : y < 2 ^ 62) : bits .or .i64 x y = x + y :=
  bits_join .i64 62 (by decide) wraps_i64 i x y hx₀ hx hx₁ hy₀ hy hy₁
theorem band (i : Nat) (hi : i ≤ 62) {x : Int} (h₀ : 0 ≤ x) (h₁ : x < 2 ^ 62) : bits .and .i64 x (2 ^ i - 1) = x % 2 ^ i :=
  bits_mask .i64 62 (by decide) wraps_i64 i hi x h₀ h₁
set_option maxRecDepth 100000 in
theorem conv_cells (w : World) (l : List UInt8) (vs : List Int) (hv : vs = l.map fun c => (c.toNat : Int)) : ∀ dst, Tryd.prog.underlying dst = some .string →
    (convert 70 dst (.slice (some ⟨w.heap.size, 0, none⟩) l.length l.length)).run Tryd.prog (w.alloc (.cells (vs.map (Value.int .u8)).toArray 5)) = .ok (.string ⟨l.toArray⟩) (w.alloc (.cells (vs.map (Value.int .u8)).toArray 5)) := by
  subst hv
  intro dst hd
  have h := World.rowIs_alloc w ((l.map fun c => (c.toNat : Int)).map (Value.int .u8)).toArray 5 (fun i => .int .u8 ((l.getD i 0).toNat : Int)) (fun i hi => by
    have hl : i < l.length := by simpa using hi
    simp [List.getD_eq_getElem?_getD, List.getElem?_eq_getElem hl])
  have hsz : ((l.map fun c => (c.toNat : Int)).map (Value.int .u8)).toArray.size = l.length := by simp
  rw [hsz] at h
  have := run_convert_bytes_arg (P := Tryd.prog) (w.alloc (.cells ((l.map fun c => (c.toNat : Int)).map (Value.int .u8)).toArray 5)) 70 5 Tryd.underlying70 Tryd.underlying5 w.heap.size 0 l.length l.length (l.map fun c => (c.toNat : Int)) (by simp) (fun i hi => by
    rw [Nat.zero_add, World.rowIs.cell h hi]
    simp [List.getD_eq_getElem?_getD, List.getElem?_eq_getElem hi]) dst hd
  rw [this]
  congr 2
  unfold strOfNums
  congr 1
  rw [List.map_map]
  have e : (fun n : Int => UInt8.ofNat n.toNat) ∘ (fun c : UInt8 => (c.toNat : Int)) = id := by
    funext c
    show UInt8.ofNat ((c.toNat : Int).toNat) = c
    rw [Int.toNat_natCast]
    exact UInt8.ofNat_toNat
  rw [e, List.map_id]
end Go.Proofs.YtiodnncpgdiejaaDoor
