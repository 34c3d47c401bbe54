/-
  NARROWER THAN 'FOR EVERY INPUT', by the rows' own cells (each row's printed sentence says how): LimitNests: loops · LimitValues: loops.
  DERIVED. THE GIVEN ROWS OF THIS SEAT. 2 by the template 'for every input the law returns true; each argument reads behind the call as it read before'; 0 by the template 'total and deterministic' (their statements: YthkpcanlimhhfaaTotals.lean).
  GIVEN WITH THE SEED: the statements are not yours to turn. If you find one false, say at which input.
  Laid BY PROGRAM, IN A SANDBOX (cutbox-rows.mjs): the forced cells as the released guide's own fill.sh prints them over the translation a0fb542948c7e164… (all of the seat's roots in one cut). By AI agents, Wed Nov 11 2026. No macro, syntax, notation, axiom, sorry.
-/
import Derived.Test.YthkpcanlimhhfaaChecked
import GoSem.Claim
import GoSem.ClaimJoined
import GoSem.ClaimMapViews
import Derived.JoinedTies
import Derived.KernelRfl
namespace Go.Proofs.Ythkpcanlimhhfaa
/- THE CELL 'sum', in the pinned program and in every row, IS THE sha256 OF THE DUMP (.gsa) THAT YthkpcanlimhhfaaProg.lean LOADS. Nothing in Lean hashes anything: it is a label: what it is worth is what the hold of that sum in a sandbox is worth. -/
noncomputable def Try.pinned : Pinned := { name := "ythkpcanlimhhfaa", sum := "a0fb542948c7e164b43b22d5476c395cf79a3965cea603a26963adaf94043f3b", checked := Try.checked }
namespace Rows
def none {H : Type} : Left H := { results := [], args := [] }

/-- 'datakitlaw11.LimitNests': WHATEVER THE INPUT: true; the input reads as it did. -/
def limitNestsSpec : ChangeSpec := { name := "limitNests", fn := fun _ => fun
  | [d1, d2, d3] => { results := [.lit (.bool true)], args := [d1, d2, d3] }
  | _ => none }
def limitNestsRow : OpenClaim := { program := "ythkpcanlimhhfaa", sum := "a0fb542948c7e164b43b22d5476c395cf79a3965cea603a26963adaf94043f3b", func := "datakit/datakitlaw11.LimitNests", spec := "limitNests", recurses := true, loops := true, apart := false }
def LimitNestsSaid : Prop := limitNestsRow.holds Try.pinned (OpenSpec.ofChange limitNestsSpec)

/-- ITS FALSE NEIGHBOUR: 'it returns false'. Refute it at one input. -/
def limitNestsWrong : ChangeSpec := { name := "limitNests", fn := fun _ => fun
  | [d1, d2, d3] => { results := [.lit (.bool false)], args := [d1, d2, d3] }
  | _ => none }
def LimitNestsWrongFalsely : Prop := limitNestsRow.holds Try.pinned (OpenSpec.ofChange limitNestsWrong)

/-- 'datakitlaw11.LimitValues': WHATEVER THE INPUT: true; the input reads as it did. -/
def limitValuesSpec : ChangeSpec := { name := "limitValues", fn := fun _ => fun
  | [d1, d2] => { results := [.lit (.bool true)], args := [d1, d2] }
  | _ => none }
def limitValuesRow : OpenClaim := { program := "ythkpcanlimhhfaa", sum := "a0fb542948c7e164b43b22d5476c395cf79a3965cea603a26963adaf94043f3b", func := "datakit/datakitlaw11.LimitValues", spec := "limitValues", recurses := true, loops := true, apart := false }
def LimitValuesSaid : Prop := limitValuesRow.holds Try.pinned (OpenSpec.ofChange limitValuesSpec)

/-- ITS FALSE NEIGHBOUR: 'it returns false'. Refute it at one input. -/
def limitValuesWrong : ChangeSpec := { name := "limitValues", fn := fun _ => fun
  | [d1, d2] => { results := [.lit (.bool false)], args := [d1, d2] }
  | _ => none }
def LimitValuesWrongFalsely : Prop := limitValuesRow.holds Try.pinned (OpenSpec.ofChange limitValuesWrong)

/- THE SECOND FORM. 'bulk': how many values and letters a reading holds, each counted each time it is reached (what is shared counts as often as it is met; a slice's spare places count too). A statement '..UptoSaid' is the law's where the arguments, and the package variables that the reading takes, are together of bulk at most 1048576: NARROWER than '..Said'. Prove '..Said' where nothing that the law and all that it calls make is longer than what came in: it says more and counts as full. Else prove '..UptoSaid'. A law counts once. -/
mutual
def uptoBulk {H : Type} : DataW H → Nat
  | .lit (.string bytes) => bytes.length + 1
  | .lit _ => 1
  | .nil => 1
  | .ptr d => uptoBulk d + 1
  | .slice elems spare => uptoBulkAll elems + uptoBulkAll spare + 1
  | .agg parts => uptoBulkAll parts + 1
  | .iface _ d => uptoBulk d + 1
  | .map entries => uptoBulkEntries entries + 1
  | .held _ => 1
def uptoBulkAll {H : Type} : List (DataW H) → Nat
  | [] => 0
  | d :: r => uptoBulk d + uptoBulkAll r
def uptoBulkEntries {H : Type} : List (Lit × DataW H) → Nat
  | [] => 0
  | x :: r => uptoBulkEntry x + uptoBulkEntries r
def uptoBulkEntry {H : Type} : Lit × DataW H → Nat
  | (.string bytes, d) => bytes.length + uptoBulk d + 1
  | (_, d) => uptoBulk d + 1
 end
def uptoSmall : (H : Type) → List (DataW H) → Bool := fun _ ds => decide (uptoBulkAll ds ≤ 1048576)
def OpenSpec.upto (s : _root_.Go.ChangeSpec) : _root_.Go.OpenSpec := { _root_.Go.OpenSpec.ofChange s with cond := some uptoSmall }

/-- 'datakitlaw11.LimitNests', WHERE WHAT IT READS IS OF BULK AT MOST 1048576: true; the input reads as it did. -/
def limitNestsUptoRow : OpenClaim := { program := "ythkpcanlimhhfaa", sum := "a0fb542948c7e164b43b22d5476c395cf79a3965cea603a26963adaf94043f3b", func := "datakit/datakitlaw11.LimitNests", spec := "limitNests", recurses := true, loops := true, apart := false, narrowed := true }
def LimitNestsUptoSaid : Prop := limitNestsUptoRow.holds Try.pinned (OpenSpec.upto limitNestsSpec)

/-- 'datakitlaw11.LimitValues', WHERE WHAT IT READS IS OF BULK AT MOST 1048576: true; the input reads as it did. -/
def limitValuesUptoRow : OpenClaim := { program := "ythkpcanlimhhfaa", sum := "a0fb542948c7e164b43b22d5476c395cf79a3965cea603a26963adaf94043f3b", func := "datakit/datakitlaw11.LimitValues", spec := "limitValues", recurses := true, loops := true, apart := false, narrowed := true }
def LimitValuesUptoSaid : Prop := limitValuesUptoRow.holds Try.pinned (OpenSpec.upto limitValuesSpec)

end Rows
end Go.Proofs.Ythkpcanlimhhfaa
