/-
  DERIVED. GIVEN WITH THE SEED: THE CARDS: each row of YtbgkldncoigggaaGreatDoorRows.lean that lists a variable, with what it lists TIED to the program's text (the seventh form; the later family's looks); each row that meets fmt, with fmt's text TOLD by the authors' own Lean function (tested against real Go, not proved from fmt's source: count such statements apart). THE CARD IS WHAT COUNTS. Prove the row's statement (the work); the ties are given (YtbgkldncoigggaaGreatDoorTie.lean); close each card by the builder's one call (the guide's Derived/Test/ToyasCard.lean, 'card_holds'). Laid BY PROGRAM, IN A SANDBOX (cutbox-door.mjs). By AI agents, Wed Nov 11 2026. No macro, syntax, notation, axiom, sorry.
-/
import Derived.Test.YtbgkldncoigggaaGreatDoorRows
import GoSem.ClaimSeven
namespace Go.Proofs.YtbgkldncoigggaaGreatDoor
namespace Rows

/-- THE TIED CARD OF 'datakitlaw05.MomentCompares'. -/
def momentComparesCard : Claim7 := { stood := { row := momentComparesRow, standIns := [], harness := (true, "b56faeca68bd36a8947fe8fd13b9dabb45b9d4542c2b24d46cb976f376277cf7"), looks := true }, kinds := [], alts := [], laidByText := true, laidKinds := [.data, .data, .data, .data, .sentinel, .sentinel, .pinned], laidTests := true, laidLooks := .later }
def MomentComparesCardSaid : Prop := Claim7.holds Tryz.pinned (.plain (OpenSpec.ofChange momentComparesSpec)) momentComparesCard

/-- THE SECOND FORM's CARD OF 'datakitlaw05.MomentCompares'. -/
def momentComparesUptoCard : Claim7 := { stood := { row := momentComparesUptoRow, standIns := [], harness := (true, "b56faeca68bd36a8947fe8fd13b9dabb45b9d4542c2b24d46cb976f376277cf7"), looks := true }, kinds := [], alts := [], laidByText := true, laidKinds := [.data, .data, .data, .data, .sentinel, .sentinel, .pinned], laidTests := true, laidLooks := .later }
def MomentComparesUptoCardSaid : Prop := Claim7.holds Tryz.pinned (.plain (OpenSpec.upto momentComparesSpec)) momentComparesUptoCard
end Rows
end Go.Proofs.YtbgkldncoigggaaGreatDoor
