/-
  DERIVED. GIVEN WITH THE SEED: THE CARDS: each row of YtiodnncpgdiejaaDoorRows.lean that lists a variable, with what it lists TIED to the program's text (the seventh form; the later family's looks); each row that meets fmt, with fmt's text TOLD by the authors' own Lean function (tested against real Go, not proved from fmt's source: count such statements apart). THE CARD IS WHAT COUNTS. Prove the row's statement (the work); the ties are given (YtiodnncpgdiejaaDoorTie.lean); close each card by the builder's one call (the guide's Derived/Test/ToyasCard.lean, 'card_holds'). Laid BY PROGRAM, IN A SANDBOX (cutbox-door.mjs). By AI agents, Wed Nov 11 2026. No macro, syntax, notation, axiom, sorry.
-/
import Derived.Test.YtiodnncpgdiejaaDoorRows
import GoSem.ClaimSeven
namespace Go.Proofs.YtiodnncpgdiejaaDoor
namespace Rows

/-- THE TIED CARD OF 'datakitlaw03.UtfInverse'. -/
def utfInverseCard : Claim7 := { stood := { row := utfInverseRow, standIns := [], harness := (true, "4db0f83e1ab8da2b7c03e55647d9ff7550d3dced9fef3f53758fd52b01ec3fbb"), looks := false }, kinds := [], alts := [], laidByText := true, laidKinds := [.data, .pinned], laidTests := true, laidLooks := .later }
def UtfInverseCardSaid : Prop := Claim7.holds Tryd.pinned (.plain (OpenSpec.ofChange utfInverseSpec)) utfInverseCard

/-- THE TIED CARD OF 'datakitlaw03.UtfRunes'. -/
def utfRunesCard : Claim7 := { stood := { row := utfRunesRow, standIns := [], harness := (true, "4db0f83e1ab8da2b7c03e55647d9ff7550d3dced9fef3f53758fd52b01ec3fbb"), looks := false }, kinds := [], alts := [], laidByText := true, laidKinds := [.data, .pinned], laidTests := true, laidLooks := .later }
def UtfRunesCardSaid : Prop := Claim7.holds Tryd.pinned (.plain (OpenSpec.ofChange utfRunesSpec)) utfRunesCard

/-- THE TIED CARD OF 'datakitlaw03.UtfPositions'. -/
def utfPositionsCard : Claim7 := { stood := { row := utfPositionsRow, standIns := [], harness := (true, "4db0f83e1ab8da2b7c03e55647d9ff7550d3dced9fef3f53758fd52b01ec3fbb"), looks := false }, kinds := [], alts := [], laidByText := true, laidKinds := [.data, .pinned], laidTests := true, laidLooks := .later }
def UtfPositionsCardSaid : Prop := Claim7.holds Tryd.pinned (.plain (OpenSpec.ofChange utfPositionsSpec)) utfPositionsCard

/-- THE SECOND FORM's CARD OF 'datakitlaw03.UtfInverse'. -/
def utfInverseUptoCard : Claim7 := { stood := { row := utfInverseUptoRow, standIns := [], harness := (true, "4db0f83e1ab8da2b7c03e55647d9ff7550d3dced9fef3f53758fd52b01ec3fbb"), looks := false }, kinds := [], alts := [], laidByText := true, laidKinds := [.data, .pinned], laidTests := true, laidLooks := .later }
def UtfInverseUptoCardSaid : Prop := Claim7.holds Tryd.pinned (.plain (OpenSpec.upto utfInverseSpec)) utfInverseUptoCard

/-- THE SECOND FORM's CARD OF 'datakitlaw03.UtfRunes'. -/
def utfRunesUptoCard : Claim7 := { stood := { row := utfRunesUptoRow, standIns := [], harness := (true, "4db0f83e1ab8da2b7c03e55647d9ff7550d3dced9fef3f53758fd52b01ec3fbb"), looks := false }, kinds := [], alts := [], laidByText := true, laidKinds := [.data, .pinned], laidTests := true, laidLooks := .later }
def UtfRunesUptoCardSaid : Prop := Claim7.holds Tryd.pinned (.plain (OpenSpec.upto utfRunesSpec)) utfRunesUptoCard

/-- THE SECOND FORM's CARD OF 'datakitlaw03.UtfPositions'. -/
def utfPositionsUptoCard : Claim7 := { stood := { row := utfPositionsUptoRow, standIns := [], harness := (true, "4db0f83e1ab8da2b7c03e55647d9ff7550d3dced9fef3f53758fd52b01ec3fbb"), looks := false }, kinds := [], alts := [], laidByText := true, laidKinds := [.data, .pinned], laidTests := true, laidLooks := .later }
def UtfPositionsUptoCardSaid : Prop := Claim7.holds Tryd.pinned (.plain (OpenSpec.upto utfPositionsSpec)) utfPositionsUptoCard
end Rows
end Go.Proofs.YtiodnncpgdiejaaDoor
