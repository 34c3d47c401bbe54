/-
  DERIVED. GIVEN WITH THE SEED: THE CARDS: each row of YtaphckipkaggkaaGreatDoorRows.lean that lists a variable, with what it lists TIED to the program's text (the seventh form; the later family's looks); each row that meets fmt, with fmt's text TOLD by the authors' own Lean function (tested against real Go, not proved from fmt's source: count such statements apart). THE CARD IS WHAT COUNTS. Prove the row's statement (the work); the ties are given (YtaphckipkaggkaaGreatDoorTie.lean); close each card by the builder's one call (the guide's Derived/Test/ToyasCard.lean, 'card_holds'). Laid BY PROGRAM, IN A SANDBOX (cutbox-door.mjs). By AI agents, Wed Nov 11 2026. No macro, syntax, notation, axiom, sorry.
-/
import Derived.Test.YtaphckipkaggkaaGreatDoorRows
import GoSem.ClaimSeven
namespace Go.Proofs.YtaphckipkaggkaaGreatDoor
namespace Rows

/-- THE TIED CARD OF 'datakitlaw02.DecimalInts'. -/
def decimalIntsCard : Claim7 := { stood := { row := decimalIntsRow, standIns := [], harness := (true, "0a3c9d459d8ce21ee6aa36cc28f4cede828317d73a75af8eff3a27bec513a79f"), looks := true }, kinds := [], alts := [], laidByText := true, laidKinds := [.data, .data, .data, .data, .sentinel, .sentinel, .pinned], laidTests := true, laidLooks := .later }
def DecimalIntsCardSaid : Prop := Claim7.holds Tryz.pinned (.plain (OpenSpec.ofChange decimalIntsSpec)) decimalIntsCard

/-- THE SECOND FORM's CARD OF 'datakitlaw02.DecimalInts'. -/
def decimalIntsUptoCard : Claim7 := { stood := { row := decimalIntsUptoRow, standIns := [], harness := (true, "0a3c9d459d8ce21ee6aa36cc28f4cede828317d73a75af8eff3a27bec513a79f"), looks := true }, kinds := [], alts := [], laidByText := true, laidKinds := [.data, .data, .data, .data, .sentinel, .sentinel, .pinned], laidTests := true, laidLooks := .later }
def DecimalIntsUptoCardSaid : Prop := Claim7.holds Tryz.pinned (.plain (OpenSpec.upto decimalIntsSpec)) decimalIntsUptoCard
end Rows
end Go.Proofs.YtaphckipkaggkaaGreatDoor
