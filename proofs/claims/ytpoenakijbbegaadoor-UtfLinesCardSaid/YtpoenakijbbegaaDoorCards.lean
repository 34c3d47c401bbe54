/-
  DERIVED. GIVEN WITH THE SEED: THE CARDS: each row of YtpoenakijbbegaaDoorRows.lean that lists a variable, with what it lists TIED to the program's text (the seventh form; the later family's looks); each row that meets fmt, with fmt's text TOLD by the authors' own Lean function (tested against real Go, not proved from fmt's source: count such statements apart). THE CARD IS WHAT COUNTS. Prove the row's statement (the work); the ties are given (YtpoenakijbbegaaDoorTie.lean); close each card by the builder's one call (the guide's Derived/Test/ToyasCard.lean, 'card_holds'). Laid BY PROGRAM, IN A SANDBOX (cutbox-door.mjs). By AI agents, Wed Nov 11 2026. No macro, syntax, notation, axiom, sorry.
-/
import Derived.Test.YtpoenakijbbegaaDoorRows
import GoSem.ClaimSeven
namespace Go.Proofs.YtpoenakijbbegaaDoor
namespace Rows

/-- THE TIED CARD OF 'datakitlaw03.UtfDecodes'. -/
def utfDecodesCard : Claim7 := { stood := { row := utfDecodesRow, standIns := [], harness := (true, "2524222fc5c69081131adea612d04414c6a3383a17fdad47cc7e2e79aacf1c60"), looks := false }, kinds := [], alts := [], laidByText := true, laidKinds := [.data, .pinned], laidTests := true, laidLooks := .later }
def UtfDecodesCardSaid : Prop := Claim7.holds Tryd.pinned (.plain (OpenSpec.ofChange utfDecodesSpec)) utfDecodesCard

/-- THE TIED CARD OF 'datakitlaw03.UtfEncodes'. -/
def utfEncodesCard : Claim7 := { stood := { row := utfEncodesRow, standIns := [], harness := (true, "2524222fc5c69081131adea612d04414c6a3383a17fdad47cc7e2e79aacf1c60"), looks := false }, kinds := [], alts := [], laidByText := true, laidKinds := [.data, .pinned], laidTests := true, laidLooks := .later }
def UtfEncodesCardSaid : Prop := Claim7.holds Tryd.pinned (.plain (OpenSpec.ofChange utfEncodesSpec)) utfEncodesCard

/-- THE TIED CARD OF 'datakitlaw03.UtfCounts'. -/
def utfCountsCard : Claim7 := { stood := { row := utfCountsRow, standIns := [], harness := (true, "2524222fc5c69081131adea612d04414c6a3383a17fdad47cc7e2e79aacf1c60"), looks := false }, kinds := [], alts := [], laidByText := true, laidKinds := [.data, .pinned], laidTests := true, laidLooks := .later }
def UtfCountsCardSaid : Prop := Claim7.holds Tryd.pinned (.plain (OpenSpec.ofChange utfCountsSpec)) utfCountsCard

/-- THE TIED CARD OF 'datakitlaw03.UtfRunes'. -/
def utfRunesCard : Claim7 := { stood := { row := utfRunesRow, standIns := [], harness := (true, "2524222fc5c69081131adea612d04414c6a3383a17fdad47cc7e2e79aacf1c60"), looks := false }, kinds := [], alts := [], laidByText := true, laidKinds := [.data, .pinned], laidTests := true, laidLooks := .later }
def UtfRunesCardSaid : Prop := Claim7.holds Tryd.pinned (.plain (OpenSpec.ofChange utfRunesSpec)) utfRunesCard

/-- THE TIED CARD OF 'datakitlaw03.UtfPositions'. -/
def utfPositionsCard : Claim7 := { stood := { row := utfPositionsRow, standIns := [], harness := (true, "2524222fc5c69081131adea612d04414c6a3383a17fdad47cc7e2e79aacf1c60"), looks := false }, kinds := [], alts := [], laidByText := true, laidKinds := [.data, .pinned], laidTests := true, laidLooks := .later }
def UtfPositionsCardSaid : Prop := Claim7.holds Tryd.pinned (.plain (OpenSpec.ofChange utfPositionsSpec)) utfPositionsCard

/-- THE TIED CARD OF 'datakitlaw03.UtfLines'. -/
def utfLinesCard : Claim7 := { stood := { row := utfLinesRow, standIns := [], harness := (true, "2524222fc5c69081131adea612d04414c6a3383a17fdad47cc7e2e79aacf1c60"), looks := false }, kinds := [], alts := [], laidByText := true, laidKinds := [.data, .pinned], laidTests := true, laidLooks := .later }
def UtfLinesCardSaid : Prop := Claim7.holds Tryd.pinned (.plain (OpenSpec.ofChange utfLinesSpec)) utfLinesCard

/-- THE TIED CARD OF 'datakitlaw03.UtfBack'. -/
def utfBackCard : Claim7 := { stood := { row := utfBackRow, standIns := [], harness := (true, "2524222fc5c69081131adea612d04414c6a3383a17fdad47cc7e2e79aacf1c60"), looks := false }, kinds := [], alts := [], laidByText := true, laidKinds := [.data, .pinned], laidTests := true, laidLooks := .later }
def UtfBackCardSaid : Prop := Claim7.holds Tryd.pinned (.plain (OpenSpec.ofChange utfBackSpec)) utfBackCard

/-- THE TIED CARD OF 'datakitlaw03.UtfInverse'. -/
def utfInverseCard : Claim7 := { stood := { row := utfInverseRow, standIns := [], harness := (true, "2524222fc5c69081131adea612d04414c6a3383a17fdad47cc7e2e79aacf1c60"), looks := false }, kinds := [], alts := [], laidByText := true, laidKinds := [.data, .pinned], laidTests := true, laidLooks := .later }
def UtfInverseCardSaid : Prop := Claim7.holds Tryd.pinned (.plain (OpenSpec.ofChange utfInverseSpec)) utfInverseCard

/-- THE TIED CARD OF 'datakitlaw03.UtfSlices'. -/
def utfSlicesCard : Claim7 := { stood := { row := utfSlicesRow, standIns := [], harness := (true, "2524222fc5c69081131adea612d04414c6a3383a17fdad47cc7e2e79aacf1c60"), looks := false }, kinds := [], alts := [], laidByText := true, laidKinds := [.data, .pinned], laidTests := true, laidLooks := .later }
def UtfSlicesCardSaid : Prop := Claim7.holds Tryd.pinned (.plain (OpenSpec.ofChange utfSlicesSpec)) utfSlicesCard

/-- THE SECOND FORM's CARD OF 'datakitlaw03.UtfDecodes'. -/
def utfDecodesUptoCard : Claim7 := { stood := { row := utfDecodesUptoRow, standIns := [], harness := (true, "2524222fc5c69081131adea612d04414c6a3383a17fdad47cc7e2e79aacf1c60"), looks := false }, kinds := [], alts := [], laidByText := true, laidKinds := [.data, .pinned], laidTests := true, laidLooks := .later }
def UtfDecodesUptoCardSaid : Prop := Claim7.holds Tryd.pinned (.plain (OpenSpec.upto utfDecodesSpec)) utfDecodesUptoCard

/-- THE SECOND FORM's CARD OF 'datakitlaw03.UtfEncodes'. -/
def utfEncodesUptoCard : Claim7 := { stood := { row := utfEncodesUptoRow, standIns := [], harness := (true, "2524222fc5c69081131adea612d04414c6a3383a17fdad47cc7e2e79aacf1c60"), looks := false }, kinds := [], alts := [], laidByText := true, laidKinds := [.data, .pinned], laidTests := true, laidLooks := .later }
def UtfEncodesUptoCardSaid : Prop := Claim7.holds Tryd.pinned (.plain (OpenSpec.upto utfEncodesSpec)) utfEncodesUptoCard

/-- THE SECOND FORM's CARD OF 'datakitlaw03.UtfCounts'. -/
def utfCountsUptoCard : Claim7 := { stood := { row := utfCountsUptoRow, standIns := [], harness := (true, "2524222fc5c69081131adea612d04414c6a3383a17fdad47cc7e2e79aacf1c60"), looks := false }, kinds := [], alts := [], laidByText := true, laidKinds := [.data, .pinned], laidTests := true, laidLooks := .later }
def UtfCountsUptoCardSaid : Prop := Claim7.holds Tryd.pinned (.plain (OpenSpec.upto utfCountsSpec)) utfCountsUptoCard

/-- THE SECOND FORM's CARD OF 'datakitlaw03.UtfRunes'. -/
def utfRunesUptoCard : Claim7 := { stood := { row := utfRunesUptoRow, standIns := [], harness := (true, "2524222fc5c69081131adea612d04414c6a3383a17fdad47cc7e2e79aacf1c60"), looks := false }, kinds := [], alts := [], laidByText := true, laidKinds := [.data, .pinned], laidTests := true, laidLooks := .later }
def UtfRunesUptoCardSaid : Prop := Claim7.holds Tryd.pinned (.plain (OpenSpec.upto utfRunesSpec)) utfRunesUptoCard

/-- THE SECOND FORM's CARD OF 'datakitlaw03.UtfPositions'. -/
def utfPositionsUptoCard : Claim7 := { stood := { row := utfPositionsUptoRow, standIns := [], harness := (true, "2524222fc5c69081131adea612d04414c6a3383a17fdad47cc7e2e79aacf1c60"), looks := false }, kinds := [], alts := [], laidByText := true, laidKinds := [.data, .pinned], laidTests := true, laidLooks := .later }
def UtfPositionsUptoCardSaid : Prop := Claim7.holds Tryd.pinned (.plain (OpenSpec.upto utfPositionsSpec)) utfPositionsUptoCard

/-- THE SECOND FORM's CARD OF 'datakitlaw03.UtfLines'. -/
def utfLinesUptoCard : Claim7 := { stood := { row := utfLinesUptoRow, standIns := [], harness := (true, "2524222fc5c69081131adea612d04414c6a3383a17fdad47cc7e2e79aacf1c60"), looks := false }, kinds := [], alts := [], laidByText := true, laidKinds := [.data, .pinned], laidTests := true, laidLooks := .later }
def UtfLinesUptoCardSaid : Prop := Claim7.holds Tryd.pinned (.plain (OpenSpec.upto utfLinesSpec)) utfLinesUptoCard

/-- THE SECOND FORM's CARD OF 'datakitlaw03.UtfBack'. -/
def utfBackUptoCard : Claim7 := { stood := { row := utfBackUptoRow, standIns := [], harness := (true, "2524222fc5c69081131adea612d04414c6a3383a17fdad47cc7e2e79aacf1c60"), looks := false }, kinds := [], alts := [], laidByText := true, laidKinds := [.data, .pinned], laidTests := true, laidLooks := .later }
def UtfBackUptoCardSaid : Prop := Claim7.holds Tryd.pinned (.plain (OpenSpec.upto utfBackSpec)) utfBackUptoCard

/-- THE SECOND FORM's CARD OF 'datakitlaw03.UtfInverse'. -/
def utfInverseUptoCard : Claim7 := { stood := { row := utfInverseUptoRow, standIns := [], harness := (true, "2524222fc5c69081131adea612d04414c6a3383a17fdad47cc7e2e79aacf1c60"), looks := false }, kinds := [], alts := [], laidByText := true, laidKinds := [.data, .pinned], laidTests := true, laidLooks := .later }
def UtfInverseUptoCardSaid : Prop := Claim7.holds Tryd.pinned (.plain (OpenSpec.upto utfInverseSpec)) utfInverseUptoCard

/-- THE SECOND FORM's CARD OF 'datakitlaw03.UtfSlices'. -/
def utfSlicesUptoCard : Claim7 := { stood := { row := utfSlicesUptoRow, standIns := [], harness := (true, "2524222fc5c69081131adea612d04414c6a3383a17fdad47cc7e2e79aacf1c60"), looks := false }, kinds := [], alts := [], laidByText := true, laidKinds := [.data, .pinned], laidTests := true, laidLooks := .later }
def UtfSlicesUptoCardSaid : Prop := Claim7.holds Tryd.pinned (.plain (OpenSpec.upto utfSlicesSpec)) utfSlicesUptoCard
end Rows
end Go.Proofs.YtpoenakijbbegaaDoor
