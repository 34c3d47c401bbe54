/-
  The law's walk: DecimalProducts.
-/
import Derived.Test.YtjidjcnjgjmeoaaDoorDecJ
namespace Go.Proofs.YtjidjcnjgjmeoaaDoor.Dec
open Go.RowKit
set_option linter.unusedVariables false
set_option linter.unusedSimpArgs false
open Go.Proofs.YtjidjcnjgjmeoaaDoor.Dig

/-- Two decimals that came in, in blocks of their own. -/
theorem two_new (w : World) (g1 : Bool) (s1 : ByteArray) (x1 : Int) (g2 : Bool) (s2 : ByteArray) (x2 : Int) : DC ((w.alloc (.cells #[.bool g1, .string s1, .int .i64 x1] 23)).alloc (.cells #[.bool g2, .string s2, .int .i64 x2] 23)) w.heap.size g1 s1 x1 ∧ DC ((w.alloc (.cells #[.bool g1, .string s1, .int .i64 x1] 23)).alloc (.cells #[.bool g2, .string s2, .int .i64 x2] 23)) (w.heap.size + 1) g2 s2 x2 ∧ Below w.heap.size w ((w.alloc (.cells #[.bool g1, .string s1, .int .i64 x1] 23)).alloc (.cells #[.bool g2, .string s2, .int .i64 x2] 23)) := by
  refine ⟨(DC.new w g1 s1 x1).alloc _, ?_, ((Below.refl _ _).alloc (Nat.le_refl _) _).alloc (by simp) _⟩
  have := DC.new (w.alloc (.cells #[.bool g1, .string s1, .int .i64 x1] 23)) g2 s2 x2
  simpa using this
end Go.Proofs.YtjidjcnjgjmeoaaDoor.Dec
