/-
  DERIVED. GIVEN WITH THE SEED: THE CARDS: each row of YthkeiogkadldmaaDoorRows.lean that lists a variable, with what it lists TIED to the program's text (the seventh form; the later family's looks); each row that meets fmt, with fmt's text TOLD by the authors' own Lean function (tested against real Go, not proved from fmt's source: count such statements apart). THE CARD IS WHAT COUNTS. Prove the row's statement (the work); the ties are given (YthkeiogkadldmaaDoorTie.lean); close each card by the builder's one call (the guide's Derived/Test/ToyasCard.lean, 'card_holds'). Laid BY PROGRAM, IN A SANDBOX (cutbox-door.mjs). By AI agents, Wed Nov 11 2026. No macro, syntax, notation, axiom, sorry.
-/
import Derived.Test.YthkeiogkadldmaaDoorRows
import GoSem.ClaimSeven
namespace Go.Proofs.YthkeiogkadldmaaDoor
namespace Rows

/-- THE TIED CARD OF 'datakitlaw35.QlexWords'. -/
def qlexWordsCard : Claim7 := { stood := { row := qlexWordsRow, standIns := [], harness := (true, "f4b12fe3343d79e1d0ed4999c48de0ba0e0b00b9ebef7431a389d2ebc781b634"), looks := false }, kinds := [], alts := [], laidByText := true, laidKinds := [.data], laidTests := true, laidLooks := .later }
def QlexWordsCardSaid : Prop := Claim7.holds Tryd.pinned (.plain (OpenSpec.ofChange qlexWordsSpec)) qlexWordsCard

/-- THE SECOND FORM's CARD OF 'datakitlaw35.QlexWords'. -/
def qlexWordsUptoCard : Claim7 := { stood := { row := qlexWordsUptoRow, standIns := [], harness := (true, "f4b12fe3343d79e1d0ed4999c48de0ba0e0b00b9ebef7431a389d2ebc781b634"), looks := false }, kinds := [], alts := [], laidByText := true, laidKinds := [.data], laidTests := true, laidLooks := .later }
def QlexWordsUptoCardSaid : Prop := Claim7.holds Tryd.pinned (.plain (OpenSpec.upto qlexWordsSpec)) qlexWordsUptoCard
end Rows
end Go.Proofs.YthkeiogkadldmaaDoor
