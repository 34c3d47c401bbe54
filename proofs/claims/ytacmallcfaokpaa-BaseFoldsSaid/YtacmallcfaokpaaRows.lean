/-
  No cell of these rows narrows 'for every input' (looked for: loops, veiled, ifaces, maps, wideKeys, modest, calm, conditions, laid).
  DERIVED. THE GIVEN ROWS OF THIS SEAT. 7 by the template 'for every input the law returns true; each argument reads behind the call as it read before'; 0 by the template 'total and deterministic' (their statements: YtacmallcfaokpaaTotals.lean).
  GIVEN WITH THE SEED: the statements are not yours to turn. If you find one false, say at which input.
  Laid BY PROGRAM, IN A SANDBOX (cutbox-rows.mjs): the forced cells as the released guide's own fill.sh prints them over the translation abba30f3545f28a2… (all of the seat's roots in one cut). By AI agents, Wed Nov 11 2026. No macro, syntax, notation, axiom, sorry.
-/
import Derived.Test.YtacmallcfaokpaaChecked
import GoSem.Claim
import GoSem.ClaimJoined
import GoSem.ClaimMapViews
import Derived.JoinedTies
import Derived.KernelRfl
namespace Go.Proofs.Ytacmallcfaokpaa
/- THE CELL 'sum', in the pinned program and in every row, IS THE sha256 OF THE DUMP (.gsa) THAT YtacmallcfaokpaaProg.lean LOADS. Nothing in Lean hashes anything: it is a label: what it is worth is what the hold of that sum in a sandbox is worth. -/
noncomputable def Try.pinned : Pinned := { name := "ytacmallcfaokpaa", sum := "abba30f3545f28a2d96598eba18edc34a0afc9ddba4de938137fa9fb5669f054", checked := Try.checked }
namespace Rows
def none {H : Type} : Left H := { results := [], args := [] }

/-- 'datakitlaw06.BaseHexes': WHATEVER THE INPUT: true; the input reads as it did. -/
def baseHexesSpec : ChangeSpec := { name := "baseHexes", fn := fun _ => fun
  | [d1, d2] => { results := [.lit (.bool true)], args := [d1, d2] }
  | _ => none }
def baseHexesRow : OpenClaim := { program := "ytacmallcfaokpaa", sum := "abba30f3545f28a2d96598eba18edc34a0afc9ddba4de938137fa9fb5669f054", func := "datakit/datakitlaw06.BaseHexes", spec := "baseHexes", inPlace := ["internal/bytealg.IndexByteString", "internal/abi.NoEscape", "internal/bytealg.MakeNoZero"], apart := false }
def BaseHexesSaid : Prop := baseHexesRow.holds Try.pinned (OpenSpec.ofChange baseHexesSpec)

/-- ITS FALSE NEIGHBOUR: 'it returns false'. Refute it at one input. -/
def baseHexesWrong : ChangeSpec := { name := "baseHexes", fn := fun _ => fun
  | [d1, d2] => { results := [.lit (.bool false)], args := [d1, d2] }
  | _ => none }
def BaseHexesWrongFalsely : Prop := baseHexesRow.holds Try.pinned (OpenSpec.ofChange baseHexesWrong)

/-- 'datakitlaw06.BaseEncodes': WHATEVER THE INPUT: true; the input reads as it did. -/
def baseEncodesSpec : ChangeSpec := { name := "baseEncodes", fn := fun _ => fun
  | [d1, d2] => { results := [.lit (.bool true)], args := [d1, d2] }
  | _ => none }
def baseEncodesRow : OpenClaim := { program := "ytacmallcfaokpaa", sum := "abba30f3545f28a2d96598eba18edc34a0afc9ddba4de938137fa9fb5669f054", func := "datakit/datakitlaw06.BaseEncodes", spec := "baseEncodes", inPlace := ["internal/bytealg.IndexByteString", "internal/abi.NoEscape", "internal/bytealg.MakeNoZero"], apart := false }
def BaseEncodesSaid : Prop := baseEncodesRow.holds Try.pinned (OpenSpec.ofChange baseEncodesSpec)

/-- ITS FALSE NEIGHBOUR: 'it returns false'. Refute it at one input. -/
def baseEncodesWrong : ChangeSpec := { name := "baseEncodes", fn := fun _ => fun
  | [d1, d2] => { results := [.lit (.bool false)], args := [d1, d2] }
  | _ => none }
def BaseEncodesWrongFalsely : Prop := baseEncodesRow.holds Try.pinned (OpenSpec.ofChange baseEncodesWrong)

/-- 'datakitlaw06.BaseDecodes': WHATEVER THE INPUT: true; the input reads as it did. -/
def baseDecodesSpec : ChangeSpec := { name := "baseDecodes", fn := fun _ => fun
  | [d] => { results := [.lit (.bool true)], args := [d] }
  | _ => none }
def baseDecodesRow : OpenClaim := { program := "ytacmallcfaokpaa", sum := "abba30f3545f28a2d96598eba18edc34a0afc9ddba4de938137fa9fb5669f054", func := "datakit/datakitlaw06.BaseDecodes", spec := "baseDecodes", inPlace := ["internal/bytealg.IndexByteString", "internal/abi.NoEscape", "internal/bytealg.MakeNoZero"], apart := false }
def BaseDecodesSaid : Prop := baseDecodesRow.holds Try.pinned (OpenSpec.ofChange baseDecodesSpec)

/-- ITS FALSE NEIGHBOUR: 'it returns false'. Refute it at one input. -/
def baseDecodesWrong : ChangeSpec := { name := "baseDecodes", fn := fun _ => fun
  | [d] => { results := [.lit (.bool false)], args := [d] }
  | _ => none }
def BaseDecodesWrongFalsely : Prop := baseDecodesRow.holds Try.pinned (OpenSpec.ofChange baseDecodesWrong)

/-- 'datakitlaw06.BaseFolds': WHATEVER THE INPUT: true; the input reads as it did. -/
def baseFoldsSpec : ChangeSpec := { name := "baseFolds", fn := fun _ => fun
  | [d1, d2] => { results := [.lit (.bool true)], args := [d1, d2] }
  | _ => none }
def baseFoldsRow : OpenClaim := { program := "ytacmallcfaokpaa", sum := "abba30f3545f28a2d96598eba18edc34a0afc9ddba4de938137fa9fb5669f054", func := "datakit/datakitlaw06.BaseFolds", spec := "baseFolds", inPlace := ["internal/bytealg.IndexByteString", "internal/abi.NoEscape", "internal/bytealg.MakeNoZero"], apart := false }
def BaseFoldsSaid : Prop := baseFoldsRow.holds Try.pinned (OpenSpec.ofChange baseFoldsSpec)

/-- ITS FALSE NEIGHBOUR: 'it returns false'. Refute it at one input. -/
def baseFoldsWrong : ChangeSpec := { name := "baseFolds", fn := fun _ => fun
  | [d1, d2] => { results := [.lit (.bool false)], args := [d1, d2] }
  | _ => none }
def BaseFoldsWrongFalsely : Prop := baseFoldsRow.holds Try.pinned (OpenSpec.ofChange baseFoldsWrong)

/-- 'datakitlaw06.BaseBack': WHATEVER THE INPUT: true; the input reads as it did. -/
def baseBackSpec : ChangeSpec := { name := "baseBack", fn := fun _ => fun
  | [d1, d2] => { results := [.lit (.bool true)], args := [d1, d2] }
  | _ => none }
def baseBackRow : OpenClaim := { program := "ytacmallcfaokpaa", sum := "abba30f3545f28a2d96598eba18edc34a0afc9ddba4de938137fa9fb5669f054", func := "datakit/datakitlaw06.BaseBack", spec := "baseBack", inPlace := ["internal/bytealg.IndexByteString", "internal/abi.NoEscape", "internal/bytealg.MakeNoZero"], apart := false }
def BaseBackSaid : Prop := baseBackRow.holds Try.pinned (OpenSpec.ofChange baseBackSpec)

/-- ITS FALSE NEIGHBOUR: 'it returns false'. Refute it at one input. -/
def baseBackWrong : ChangeSpec := { name := "baseBack", fn := fun _ => fun
  | [d1, d2] => { results := [.lit (.bool false)], args := [d1, d2] }
  | _ => none }
def BaseBackWrongFalsely : Prop := baseBackRow.holds Try.pinned (OpenSpec.ofChange baseBackWrong)

/-- 'datakitlaw06.BaseOnly': WHATEVER THE INPUT: true; the input reads as it did. -/
def baseOnlySpec : ChangeSpec := { name := "baseOnly", fn := fun _ => fun
  | [d1, d2] => { results := [.lit (.bool true)], args := [d1, d2] }
  | _ => none }
def baseOnlyRow : OpenClaim := { program := "ytacmallcfaokpaa", sum := "abba30f3545f28a2d96598eba18edc34a0afc9ddba4de938137fa9fb5669f054", func := "datakit/datakitlaw06.BaseOnly", spec := "baseOnly", inPlace := ["internal/bytealg.IndexByteString", "internal/abi.NoEscape", "internal/bytealg.MakeNoZero"], apart := false }
def BaseOnlySaid : Prop := baseOnlyRow.holds Try.pinned (OpenSpec.ofChange baseOnlySpec)

/-- ITS FALSE NEIGHBOUR: 'it returns false'. Refute it at one input. -/
def baseOnlyWrong : ChangeSpec := { name := "baseOnly", fn := fun _ => fun
  | [d1, d2] => { results := [.lit (.bool false)], args := [d1, d2] }
  | _ => none }
def BaseOnlyWrongFalsely : Prop := baseOnlyRow.holds Try.pinned (OpenSpec.ofChange baseOnlyWrong)

/-- 'datakitlaw06.BaseCut': WHATEVER THE INPUT: true; the input reads as it did. -/
def baseCutSpec : ChangeSpec := { name := "baseCut", fn := fun _ => fun
  | [d1, d2, d3] => { results := [.lit (.bool true)], args := [d1, d2, d3] }
  | _ => none }
def baseCutRow : OpenClaim := { program := "ytacmallcfaokpaa", sum := "abba30f3545f28a2d96598eba18edc34a0afc9ddba4de938137fa9fb5669f054", func := "datakit/datakitlaw06.BaseCut", spec := "baseCut", inPlace := ["internal/bytealg.IndexByteString", "internal/abi.NoEscape", "internal/bytealg.MakeNoZero"], apart := false }
def BaseCutSaid : Prop := baseCutRow.holds Try.pinned (OpenSpec.ofChange baseCutSpec)

/-- ITS FALSE NEIGHBOUR: 'it returns false'. Refute it at one input. -/
def baseCutWrong : ChangeSpec := { name := "baseCut", fn := fun _ => fun
  | [d1, d2, d3] => { results := [.lit (.bool false)], args := [d1, d2, d3] }
  | _ => none }
def BaseCutWrongFalsely : Prop := baseCutRow.holds Try.pinned (OpenSpec.ofChange baseCutWrong)

/- THE SECOND FORM. 'bulk': how many values and letters a reading holds, each counted each time it is reached (what is shared counts as often as it is met; a slice's spare places count too). A statement '..UptoSaid' is the law's where the arguments, and the package variables that the reading takes, are together of bulk at most 1048576: NARROWER than '..Said'. Prove '..Said' where nothing that the law and all that it calls make is longer than what came in: it says more and counts as full. Else prove '..UptoSaid'. A law counts once. -/
mutual
def uptoBulk {H : Type} : DataW H → Nat
  | .lit (.string bytes) => bytes.length + 1
  | .lit _ => 1
  | .nil => 1
  | .ptr d => uptoBulk d + 1
  | .slice elems spare => uptoBulkAll elems + uptoBulkAll spare + 1
  | .agg parts => uptoBulkAll parts + 1
  | .iface _ d => uptoBulk d + 1
  | .map entries => uptoBulkEntries entries + 1
  | .held _ => 1
def uptoBulkAll {H : Type} : List (DataW H) → Nat
  | [] => 0
  | d :: r => uptoBulk d + uptoBulkAll r
def uptoBulkEntries {H : Type} : List (Lit × DataW H) → Nat
  | [] => 0
  | x :: r => uptoBulkEntry x + uptoBulkEntries r
def uptoBulkEntry {H : Type} : Lit × DataW H → Nat
  | (.string bytes, d) => bytes.length + uptoBulk d + 1
  | (_, d) => uptoBulk d + 1
 end
def uptoSmall : (H : Type) → List (DataW H) → Bool := fun _ ds => decide (uptoBulkAll ds ≤ 1048576)
def OpenSpec.upto (s : _root_.Go.ChangeSpec) : _root_.Go.OpenSpec := { _root_.Go.OpenSpec.ofChange s with cond := some uptoSmall }

/-- 'datakitlaw06.BaseHexes', WHERE WHAT IT READS IS OF BULK AT MOST 1048576: true; the input reads as it did. -/
def baseHexesUptoRow : OpenClaim := { program := "ytacmallcfaokpaa", sum := "abba30f3545f28a2d96598eba18edc34a0afc9ddba4de938137fa9fb5669f054", func := "datakit/datakitlaw06.BaseHexes", spec := "baseHexes", inPlace := ["internal/bytealg.IndexByteString", "internal/abi.NoEscape", "internal/bytealg.MakeNoZero"], apart := false, narrowed := true }
def BaseHexesUptoSaid : Prop := baseHexesUptoRow.holds Try.pinned (OpenSpec.upto baseHexesSpec)

/-- 'datakitlaw06.BaseEncodes', WHERE WHAT IT READS IS OF BULK AT MOST 1048576: true; the input reads as it did. -/
def baseEncodesUptoRow : OpenClaim := { program := "ytacmallcfaokpaa", sum := "abba30f3545f28a2d96598eba18edc34a0afc9ddba4de938137fa9fb5669f054", func := "datakit/datakitlaw06.BaseEncodes", spec := "baseEncodes", inPlace := ["internal/bytealg.IndexByteString", "internal/abi.NoEscape", "internal/bytealg.MakeNoZero"], apart := false, narrowed := true }
def BaseEncodesUptoSaid : Prop := baseEncodesUptoRow.holds Try.pinned (OpenSpec.upto baseEncodesSpec)

/-- 'datakitlaw06.BaseDecodes', WHERE WHAT IT READS IS OF BULK AT MOST 1048576: true; the input reads as it did. -/
def baseDecodesUptoRow : OpenClaim := { program := "ytacmallcfaokpaa", sum := "abba30f3545f28a2d96598eba18edc34a0afc9ddba4de938137fa9fb5669f054", func := "datakit/datakitlaw06.BaseDecodes", spec := "baseDecodes", inPlace := ["internal/bytealg.IndexByteString", "internal/abi.NoEscape", "internal/bytealg.MakeNoZero"], apart := false, narrowed := true }
def BaseDecodesUptoSaid : Prop := baseDecodesUptoRow.holds Try.pinned (OpenSpec.upto baseDecodesSpec)

/-- 'datakitlaw06.BaseFolds', WHERE WHAT IT READS IS OF BULK AT MOST 1048576: true; the input reads as it did. -/
def baseFoldsUptoRow : OpenClaim := { program := "ytacmallcfaokpaa", sum := "abba30f3545f28a2d96598eba18edc34a0afc9ddba4de938137fa9fb5669f054", func := "datakit/datakitlaw06.BaseFolds", spec := "baseFolds", inPlace := ["internal/bytealg.IndexByteString", "internal/abi.NoEscape", "internal/bytealg.MakeNoZero"], apart := false, narrowed := true }
def BaseFoldsUptoSaid : Prop := baseFoldsUptoRow.holds Try.pinned (OpenSpec.upto baseFoldsSpec)

/-- 'datakitlaw06.BaseBack', WHERE WHAT IT READS IS OF BULK AT MOST 1048576: true; the input reads as it did. -/
def baseBackUptoRow : OpenClaim := { program := "ytacmallcfaokpaa", sum := "abba30f3545f28a2d96598eba18edc34a0afc9ddba4de938137fa9fb5669f054", func := "datakit/datakitlaw06.BaseBack", spec := "baseBack", inPlace := ["internal/bytealg.IndexByteString", "internal/abi.NoEscape", "internal/bytealg.MakeNoZero"], apart := false, narrowed := true }
def BaseBackUptoSaid : Prop := baseBackUptoRow.holds Try.pinned (OpenSpec.upto baseBackSpec)

/-- 'datakitlaw06.BaseOnly', WHERE WHAT IT READS IS OF BULK AT MOST 1048576: true; the input reads as it did. -/
def baseOnlyUptoRow : OpenClaim := { program := "ytacmallcfaokpaa", sum := "abba30f3545f28a2d96598eba18edc34a0afc9ddba4de938137fa9fb5669f054", func := "datakit/datakitlaw06.BaseOnly", spec := "baseOnly", inPlace := ["internal/bytealg.IndexByteString", "internal/abi.NoEscape", "internal/bytealg.MakeNoZero"], apart := false, narrowed := true }
def BaseOnlyUptoSaid : Prop := baseOnlyUptoRow.holds Try.pinned (OpenSpec.upto baseOnlySpec)

/-- 'datakitlaw06.BaseCut', WHERE WHAT IT READS IS OF BULK AT MOST 1048576: true; the input reads as it did. -/
def baseCutUptoRow : OpenClaim := { program := "ytacmallcfaokpaa", sum := "abba30f3545f28a2d96598eba18edc34a0afc9ddba4de938137fa9fb5669f054", func := "datakit/datakitlaw06.BaseCut", spec := "baseCut", inPlace := ["internal/bytealg.IndexByteString", "internal/abi.NoEscape", "internal/bytealg.MakeNoZero"], apart := false, narrowed := true }
def BaseCutUptoSaid : Prop := baseCutUptoRow.holds Try.pinned (OpenSpec.upto baseCutSpec)

end Rows
end Go.Proofs.Ytacmallcfaokpaa
