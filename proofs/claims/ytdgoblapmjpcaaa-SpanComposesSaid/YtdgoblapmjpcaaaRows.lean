/-
  No cell of these rows narrows 'for every input' (looked for: loops, veiled, ifaces, maps, wideKeys, modest, calm, conditions, laid).
  DERIVED. THE GIVEN ROWS OF THIS SEAT. 7 by the template 'for every input the law returns true; each argument reads behind the call as it read before'; 0 by the template 'total and deterministic' (their statements: YtdgoblapmjpcaaaTotals.lean).
  GIVEN WITH THE SEED: the statements are not yours to turn. If you find one false, say at which input.
  Laid BY PROGRAM, IN A SANDBOX (cutbox-rows.mjs): the forced cells as the released guide's own fill.sh prints them over the translation d42bb4f28bfcda19… (all of the seat's roots in one cut). By AI agents, Wed Nov 11 2026. No macro, syntax, notation, axiom, sorry.
-/
import Derived.Test.YtdgoblapmjpcaaaChecked
import GoSem.Claim
import GoSem.ClaimJoined
import GoSem.ClaimMapViews
import Derived.JoinedTies
import Derived.KernelRfl
namespace Go.Proofs.Ytdgoblapmjpcaaa
/- THE CELL 'sum', in the pinned program and in every row, IS THE sha256 OF THE DUMP (.gsa) THAT YtdgoblapmjpcaaaProg.lean LOADS. Nothing in Lean hashes anything: it is a label: what it is worth is what the hold of that sum in a sandbox is worth. -/
noncomputable def Try.pinned : Pinned := { name := "ytdgoblapmjpcaaa", sum := "d42bb4f28bfcda19cbb59220c23254dab92a64dd664ab0e2fd0550ab58e5982d", checked := Try.checked }
namespace Rows
def none {H : Type} : Left H := { results := [], args := [] }

/-- 'datakitlaw12.SpanChecks': WHATEVER THE INPUT: true; the input reads as it did. -/
def spanChecksSpec : ChangeSpec := { name := "spanChecks", fn := fun _ => fun
  | [d1, d2, d3] => { results := [.lit (.bool true)], args := [d1, d2, d3] }
  | _ => none }
def spanChecksRow : OpenClaim := { program := "ytdgoblapmjpcaaa", sum := "d42bb4f28bfcda19cbb59220c23254dab92a64dd664ab0e2fd0550ab58e5982d", func := "datakit/datakitlaw12.SpanChecks", spec := "spanChecks", inPlace := ["internal/abi.NoEscape", "internal/bytealg.MakeNoZero"], apart := false }
def SpanChecksSaid : Prop := spanChecksRow.holds Try.pinned (OpenSpec.ofChange spanChecksSpec)

/-- ITS FALSE NEIGHBOUR: 'it returns false'. Refute it at one input. -/
def spanChecksWrong : ChangeSpec := { name := "spanChecks", fn := fun _ => fun
  | [d1, d2, d3] => { results := [.lit (.bool false)], args := [d1, d2, d3] }
  | _ => none }
def SpanChecksWrongFalsely : Prop := spanChecksRow.holds Try.pinned (OpenSpec.ofChange spanChecksWrong)

/-- 'datakitlaw12.SpanApplies': WHATEVER THE INPUT: true; the input reads as it did. -/
def spanAppliesSpec : ChangeSpec := { name := "spanApplies", fn := fun _ => fun
  | [d1, d2] => { results := [.lit (.bool true)], args := [d1, d2] }
  | _ => none }
def spanAppliesRow : OpenClaim := { program := "ytdgoblapmjpcaaa", sum := "d42bb4f28bfcda19cbb59220c23254dab92a64dd664ab0e2fd0550ab58e5982d", func := "datakit/datakitlaw12.SpanApplies", spec := "spanApplies", inPlace := ["internal/abi.NoEscape", "internal/bytealg.MakeNoZero"], apart := false }
def SpanAppliesSaid : Prop := spanAppliesRow.holds Try.pinned (OpenSpec.ofChange spanAppliesSpec)

/-- ITS FALSE NEIGHBOUR: 'it returns false'. Refute it at one input. -/
def spanAppliesWrong : ChangeSpec := { name := "spanApplies", fn := fun _ => fun
  | [d1, d2] => { results := [.lit (.bool false)], args := [d1, d2] }
  | _ => none }
def SpanAppliesWrongFalsely : Prop := spanAppliesRow.holds Try.pinned (OpenSpec.ofChange spanAppliesWrong)

/-- 'datakitlaw12.SpanInverts': WHATEVER THE INPUT: true; the input reads as it did. -/
def spanInvertsSpec : ChangeSpec := { name := "spanInverts", fn := fun _ => fun
  | [d1, d2] => { results := [.lit (.bool true)], args := [d1, d2] }
  | _ => none }
def spanInvertsRow : OpenClaim := { program := "ytdgoblapmjpcaaa", sum := "d42bb4f28bfcda19cbb59220c23254dab92a64dd664ab0e2fd0550ab58e5982d", func := "datakit/datakitlaw12.SpanInverts", spec := "spanInverts", inPlace := ["internal/abi.NoEscape", "internal/bytealg.MakeNoZero"], apart := false }
def SpanInvertsSaid : Prop := spanInvertsRow.holds Try.pinned (OpenSpec.ofChange spanInvertsSpec)

/-- ITS FALSE NEIGHBOUR: 'it returns false'. Refute it at one input. -/
def spanInvertsWrong : ChangeSpec := { name := "spanInverts", fn := fun _ => fun
  | [d1, d2] => { results := [.lit (.bool false)], args := [d1, d2] }
  | _ => none }
def SpanInvertsWrongFalsely : Prop := spanInvertsRow.holds Try.pinned (OpenSpec.ofChange spanInvertsWrong)

/-- 'datakitlaw12.SpanComposes': WHATEVER THE INPUT: true; the input reads as it did. -/
def spanComposesSpec : ChangeSpec := { name := "spanComposes", fn := fun _ => fun
  | [d1, d2, d3] => { results := [.lit (.bool true)], args := [d1, d2, d3] }
  | _ => none }
def spanComposesRow : OpenClaim := { program := "ytdgoblapmjpcaaa", sum := "d42bb4f28bfcda19cbb59220c23254dab92a64dd664ab0e2fd0550ab58e5982d", func := "datakit/datakitlaw12.SpanComposes", spec := "spanComposes", inPlace := ["internal/abi.NoEscape", "internal/bytealg.MakeNoZero"], apart := false }
def SpanComposesSaid : Prop := spanComposesRow.holds Try.pinned (OpenSpec.ofChange spanComposesSpec)

/-- ITS FALSE NEIGHBOUR: 'it returns false'. Refute it at one input. -/
def spanComposesWrong : ChangeSpec := { name := "spanComposes", fn := fun _ => fun
  | [d1, d2, d3] => { results := [.lit (.bool false)], args := [d1, d2, d3] }
  | _ => none }
def SpanComposesWrongFalsely : Prop := spanComposesRow.holds Try.pinned (OpenSpec.ofChange spanComposesWrong)

/-- 'datakitlaw12.SpanCompose': WHATEVER THE INPUT: true; the input reads as it did. -/
def spanComposeSpec : ChangeSpec := { name := "spanCompose", fn := fun _ => fun
  | [d1, d2, d3] => { results := [.lit (.bool true)], args := [d1, d2, d3] }
  | _ => none }
def spanComposeRow : OpenClaim := { program := "ytdgoblapmjpcaaa", sum := "d42bb4f28bfcda19cbb59220c23254dab92a64dd664ab0e2fd0550ab58e5982d", func := "datakit/datakitlaw12.SpanCompose", spec := "spanCompose", inPlace := ["internal/abi.NoEscape", "internal/bytealg.MakeNoZero"], apart := false }
def SpanComposeSaid : Prop := spanComposeRow.holds Try.pinned (OpenSpec.ofChange spanComposeSpec)

/-- ITS FALSE NEIGHBOUR: 'it returns false'. Refute it at one input. -/
def spanComposeWrong : ChangeSpec := { name := "spanCompose", fn := fun _ => fun
  | [d1, d2, d3] => { results := [.lit (.bool false)], args := [d1, d2, d3] }
  | _ => none }
def SpanComposeWrongFalsely : Prop := spanComposeRow.holds Try.pinned (OpenSpec.ofChange spanComposeWrong)

/-- 'datakitlaw12.SpanMoves': WHATEVER THE INPUT: true; the input reads as it did. -/
def spanMovesSpec : ChangeSpec := { name := "spanMoves", fn := fun _ => fun
  | [d1, d2, d3] => { results := [.lit (.bool true)], args := [d1, d2, d3] }
  | _ => none }
def spanMovesRow : OpenClaim := { program := "ytdgoblapmjpcaaa", sum := "d42bb4f28bfcda19cbb59220c23254dab92a64dd664ab0e2fd0550ab58e5982d", func := "datakit/datakitlaw12.SpanMoves", spec := "spanMoves", inPlace := ["internal/abi.NoEscape", "internal/bytealg.MakeNoZero"], apart := false }
def SpanMovesSaid : Prop := spanMovesRow.holds Try.pinned (OpenSpec.ofChange spanMovesSpec)

/-- ITS FALSE NEIGHBOUR: 'it returns false'. Refute it at one input. -/
def spanMovesWrong : ChangeSpec := { name := "spanMoves", fn := fun _ => fun
  | [d1, d2, d3] => { results := [.lit (.bool false)], args := [d1, d2, d3] }
  | _ => none }
def SpanMovesWrongFalsely : Prop := spanMovesRow.holds Try.pinned (OpenSpec.ofChange spanMovesWrong)

/-- 'datakitlaw12.SpanSingles': WHATEVER THE INPUT: true; the input reads as it did. -/
def spanSinglesSpec : ChangeSpec := { name := "spanSingles", fn := fun _ => fun
  | [d1, d2] => { results := [.lit (.bool true)], args := [d1, d2] }
  | _ => none }
def spanSinglesRow : OpenClaim := { program := "ytdgoblapmjpcaaa", sum := "d42bb4f28bfcda19cbb59220c23254dab92a64dd664ab0e2fd0550ab58e5982d", func := "datakit/datakitlaw12.SpanSingles", spec := "spanSingles", inPlace := ["internal/abi.NoEscape", "internal/bytealg.MakeNoZero"], apart := false }
def SpanSinglesSaid : Prop := spanSinglesRow.holds Try.pinned (OpenSpec.ofChange spanSinglesSpec)

/-- ITS FALSE NEIGHBOUR: 'it returns false'. Refute it at one input. -/
def spanSinglesWrong : ChangeSpec := { name := "spanSingles", fn := fun _ => fun
  | [d1, d2] => { results := [.lit (.bool false)], args := [d1, d2] }
  | _ => none }
def SpanSinglesWrongFalsely : Prop := spanSinglesRow.holds Try.pinned (OpenSpec.ofChange spanSinglesWrong)

/- THE SECOND FORM. 'bulk': how many values and letters a reading holds, each counted each time it is reached (what is shared counts as often as it is met; a slice's spare places count too). A statement '..UptoSaid' is the law's where the arguments, and the package variables that the reading takes, are together of bulk at most 1048576: NARROWER than '..Said'. Prove '..Said' where nothing that the law and all that it calls make is longer than what came in: it says more and counts as full. Else prove '..UptoSaid'. A law counts once. -/
mutual
def uptoBulk {H : Type} : DataW H → Nat
  | .lit (.string bytes) => bytes.length + 1
  | .lit _ => 1
  | .nil => 1
  | .ptr d => uptoBulk d + 1
  | .slice elems spare => uptoBulkAll elems + uptoBulkAll spare + 1
  | .agg parts => uptoBulkAll parts + 1
  | .iface _ d => uptoBulk d + 1
  | .map entries => uptoBulkEntries entries + 1
  | .held _ => 1
def uptoBulkAll {H : Type} : List (DataW H) → Nat
  | [] => 0
  | d :: r => uptoBulk d + uptoBulkAll r
def uptoBulkEntries {H : Type} : List (Lit × DataW H) → Nat
  | [] => 0
  | x :: r => uptoBulkEntry x + uptoBulkEntries r
def uptoBulkEntry {H : Type} : Lit × DataW H → Nat
  | (.string bytes, d) => bytes.length + uptoBulk d + 1
  | (_, d) => uptoBulk d + 1
 end
def uptoSmall : (H : Type) → List (DataW H) → Bool := fun _ ds => decide (uptoBulkAll ds ≤ 1048576)
def OpenSpec.upto (s : _root_.Go.ChangeSpec) : _root_.Go.OpenSpec := { _root_.Go.OpenSpec.ofChange s with cond := some uptoSmall }

/-- 'datakitlaw12.SpanChecks', WHERE WHAT IT READS IS OF BULK AT MOST 1048576: true; the input reads as it did. -/
def spanChecksUptoRow : OpenClaim := { program := "ytdgoblapmjpcaaa", sum := "d42bb4f28bfcda19cbb59220c23254dab92a64dd664ab0e2fd0550ab58e5982d", func := "datakit/datakitlaw12.SpanChecks", spec := "spanChecks", inPlace := ["internal/abi.NoEscape", "internal/bytealg.MakeNoZero"], apart := false, narrowed := true }
def SpanChecksUptoSaid : Prop := spanChecksUptoRow.holds Try.pinned (OpenSpec.upto spanChecksSpec)

/-- 'datakitlaw12.SpanApplies', WHERE WHAT IT READS IS OF BULK AT MOST 1048576: true; the input reads as it did. -/
def spanAppliesUptoRow : OpenClaim := { program := "ytdgoblapmjpcaaa", sum := "d42bb4f28bfcda19cbb59220c23254dab92a64dd664ab0e2fd0550ab58e5982d", func := "datakit/datakitlaw12.SpanApplies", spec := "spanApplies", inPlace := ["internal/abi.NoEscape", "internal/bytealg.MakeNoZero"], apart := false, narrowed := true }
def SpanAppliesUptoSaid : Prop := spanAppliesUptoRow.holds Try.pinned (OpenSpec.upto spanAppliesSpec)

/-- 'datakitlaw12.SpanInverts', WHERE WHAT IT READS IS OF BULK AT MOST 1048576: true; the input reads as it did. -/
def spanInvertsUptoRow : OpenClaim := { program := "ytdgoblapmjpcaaa", sum := "d42bb4f28bfcda19cbb59220c23254dab92a64dd664ab0e2fd0550ab58e5982d", func := "datakit/datakitlaw12.SpanInverts", spec := "spanInverts", inPlace := ["internal/abi.NoEscape", "internal/bytealg.MakeNoZero"], apart := false, narrowed := true }
def SpanInvertsUptoSaid : Prop := spanInvertsUptoRow.holds Try.pinned (OpenSpec.upto spanInvertsSpec)

/-- 'datakitlaw12.SpanComposes', WHERE WHAT IT READS IS OF BULK AT MOST 1048576: true; the input reads as it did. -/
def spanComposesUptoRow : OpenClaim := { program := "ytdgoblapmjpcaaa", sum := "d42bb4f28bfcda19cbb59220c23254dab92a64dd664ab0e2fd0550ab58e5982d", func := "datakit/datakitlaw12.SpanComposes", spec := "spanComposes", inPlace := ["internal/abi.NoEscape", "internal/bytealg.MakeNoZero"], apart := false, narrowed := true }
def SpanComposesUptoSaid : Prop := spanComposesUptoRow.holds Try.pinned (OpenSpec.upto spanComposesSpec)

/-- 'datakitlaw12.SpanCompose', WHERE WHAT IT READS IS OF BULK AT MOST 1048576: true; the input reads as it did. -/
def spanComposeUptoRow : OpenClaim := { program := "ytdgoblapmjpcaaa", sum := "d42bb4f28bfcda19cbb59220c23254dab92a64dd664ab0e2fd0550ab58e5982d", func := "datakit/datakitlaw12.SpanCompose", spec := "spanCompose", inPlace := ["internal/abi.NoEscape", "internal/bytealg.MakeNoZero"], apart := false, narrowed := true }
def SpanComposeUptoSaid : Prop := spanComposeUptoRow.holds Try.pinned (OpenSpec.upto spanComposeSpec)

/-- 'datakitlaw12.SpanMoves', WHERE WHAT IT READS IS OF BULK AT MOST 1048576: true; the input reads as it did. -/
def spanMovesUptoRow : OpenClaim := { program := "ytdgoblapmjpcaaa", sum := "d42bb4f28bfcda19cbb59220c23254dab92a64dd664ab0e2fd0550ab58e5982d", func := "datakit/datakitlaw12.SpanMoves", spec := "spanMoves", inPlace := ["internal/abi.NoEscape", "internal/bytealg.MakeNoZero"], apart := false, narrowed := true }
def SpanMovesUptoSaid : Prop := spanMovesUptoRow.holds Try.pinned (OpenSpec.upto spanMovesSpec)

/-- 'datakitlaw12.SpanSingles', WHERE WHAT IT READS IS OF BULK AT MOST 1048576: true; the input reads as it did. -/
def spanSinglesUptoRow : OpenClaim := { program := "ytdgoblapmjpcaaa", sum := "d42bb4f28bfcda19cbb59220c23254dab92a64dd664ab0e2fd0550ab58e5982d", func := "datakit/datakitlaw12.SpanSingles", spec := "spanSingles", inPlace := ["internal/abi.NoEscape", "internal/bytealg.MakeNoZero"], apart := false, narrowed := true }
def SpanSinglesUptoSaid : Prop := spanSinglesUptoRow.holds Try.pinned (OpenSpec.upto spanSinglesSpec)

end Rows
end Go.Proofs.Ytdgoblapmjpcaaa
