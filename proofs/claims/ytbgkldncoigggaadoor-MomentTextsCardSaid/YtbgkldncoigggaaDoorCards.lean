/-
  DERIVED. GIVEN WITH THE SEED: THE CARDS: each row of YtbgkldncoigggaaDoorRows.lean that lists a variable, with what it lists TIED to the program's text (the seventh form; the later family's looks); each row that meets fmt, with fmt's text TOLD by the authors' own Lean function (tested against real Go, not proved from fmt's source: count such statements apart). THE CARD IS WHAT COUNTS. Prove the row's statement (the work); the ties are given (YtbgkldncoigggaaDoorTie.lean); close each card by the builder's one call (the guide's Derived/Test/ToyasCard.lean, 'card_holds'). Laid BY PROGRAM, IN A SANDBOX (cutbox-door.mjs). By AI agents, Wed Nov 11 2026. No macro, syntax, notation, axiom, sorry.
-/
import Derived.Test.YtbgkldncoigggaaDoorRows
import GoSem.ClaimSeven
namespace Go.Proofs.YtbgkldncoigggaaDoor
namespace Rows

/-- THE TIED CARD OF 'datakitlaw05.MomentTexts'. -/
def momentTextsCard : Claim7 := { stood := { row := momentTextsRow, standIns := [], harness := (true, "e07ef2cd96e24cf6bf96d95c97419b5d750d70840a9bace1bc8e80f2a98558a6"), looks := true }, kinds := [], alts := [], laidByText := true, laidKinds := [.data, .data, .data, .data, .sentinel, .sentinel, .pinned], laidTests := true, laidLooks := .later }
def MomentTextsCardSaid : Prop := Claim7.holds Tryd.pinned (.plain (OpenSpec.ofChange momentTextsSpec)) momentTextsCard

/-- THE TIED CARD OF 'datakitlaw05.MomentParses'. -/
def momentParsesCard : Claim7 := { stood := { row := momentParsesRow, standIns := [], harness := (true, "e07ef2cd96e24cf6bf96d95c97419b5d750d70840a9bace1bc8e80f2a98558a6"), looks := true }, kinds := [], alts := [], laidByText := true, laidKinds := [.data, .data, .data, .data, .sentinel, .sentinel, .pinned], laidTests := true, laidLooks := .later }
def MomentParsesCardSaid : Prop := Claim7.holds Tryd.pinned (.plain (OpenSpec.ofChange momentParsesSpec)) momentParsesCard

/-- THE TIED CARD OF 'datakitlaw05.MomentZones'. -/
def momentZonesCard : Claim7 := { stood := { row := momentZonesRow, standIns := [], harness := (true, "e07ef2cd96e24cf6bf96d95c97419b5d750d70840a9bace1bc8e80f2a98558a6"), looks := true }, kinds := [], alts := [], laidByText := true, laidKinds := [.data, .data, .data, .data, .sentinel, .sentinel, .pinned], laidTests := true, laidLooks := .later }
def MomentZonesCardSaid : Prop := Claim7.holds Tryd.pinned (.plain (OpenSpec.ofChange momentZonesSpec)) momentZonesCard

/-- THE TIED CARD OF 'datakitlaw05.MomentShifts'. -/
def momentShiftsCard : Claim7 := { stood := { row := momentShiftsRow, standIns := [], harness := (true, "e07ef2cd96e24cf6bf96d95c97419b5d750d70840a9bace1bc8e80f2a98558a6"), looks := true }, kinds := [], alts := [], laidByText := true, laidKinds := [.data, .data, .data, .data, .sentinel, .sentinel, .pinned], laidTests := true, laidLooks := .later }
def MomentShiftsCardSaid : Prop := Claim7.holds Tryd.pinned (.plain (OpenSpec.ofChange momentShiftsSpec)) momentShiftsCard

/-- THE TIED CARD OF 'datakitlaw05.MomentBetween'. -/
def momentBetweenCard : Claim7 := { stood := { row := momentBetweenRow, standIns := [], harness := (true, "e07ef2cd96e24cf6bf96d95c97419b5d750d70840a9bace1bc8e80f2a98558a6"), looks := true }, kinds := [], alts := [], laidByText := true, laidKinds := [.data, .data, .data, .data, .sentinel, .sentinel, .pinned], laidTests := true, laidLooks := .later }
def MomentBetweenCardSaid : Prop := Claim7.holds Tryd.pinned (.plain (OpenSpec.ofChange momentBetweenSpec)) momentBetweenCard

/-- THE TIED CARD OF 'datakitlaw05.MomentBack'. -/
def momentBackCard : Claim7 := { stood := { row := momentBackRow, standIns := [], harness := (true, "e07ef2cd96e24cf6bf96d95c97419b5d750d70840a9bace1bc8e80f2a98558a6"), looks := true }, kinds := [], alts := [], laidByText := true, laidKinds := [.data, .data, .data, .data, .sentinel, .sentinel, .pinned], laidTests := true, laidLooks := .later }
def MomentBackCardSaid : Prop := Claim7.holds Tryd.pinned (.plain (OpenSpec.ofChange momentBackSpec)) momentBackCard

/-- THE TIED CARD OF 'datakitlaw05.MomentOrder'. -/
def momentOrderCard : Claim7 := { stood := { row := momentOrderRow, standIns := [], harness := (true, "e07ef2cd96e24cf6bf96d95c97419b5d750d70840a9bace1bc8e80f2a98558a6"), looks := true }, kinds := [], alts := [], laidByText := true, laidKinds := [.data, .data, .data, .data, .sentinel, .sentinel, .pinned], laidTests := true, laidLooks := .later }
def MomentOrderCardSaid : Prop := Claim7.holds Tryd.pinned (.plain (OpenSpec.ofChange momentOrderSpec)) momentOrderCard

/-- THE TIED CARD OF 'datakitlaw05.MomentMoves'. -/
def momentMovesCard : Claim7 := { stood := { row := momentMovesRow, standIns := [], harness := (true, "e07ef2cd96e24cf6bf96d95c97419b5d750d70840a9bace1bc8e80f2a98558a6"), looks := true }, kinds := [], alts := [], laidByText := true, laidKinds := [.data, .data, .data, .data, .sentinel, .sentinel, .pinned], laidTests := true, laidLooks := .later }
def MomentMovesCardSaid : Prop := Claim7.holds Tryd.pinned (.plain (OpenSpec.ofChange momentMovesSpec)) momentMovesCard

/-- THE SECOND FORM's CARD OF 'datakitlaw05.MomentTexts'. -/
def momentTextsUptoCard : Claim7 := { stood := { row := momentTextsUptoRow, standIns := [], harness := (true, "e07ef2cd96e24cf6bf96d95c97419b5d750d70840a9bace1bc8e80f2a98558a6"), looks := true }, kinds := [], alts := [], laidByText := true, laidKinds := [.data, .data, .data, .data, .sentinel, .sentinel, .pinned], laidTests := true, laidLooks := .later }
def MomentTextsUptoCardSaid : Prop := Claim7.holds Tryd.pinned (.plain (OpenSpec.upto momentTextsSpec)) momentTextsUptoCard

/-- THE SECOND FORM's CARD OF 'datakitlaw05.MomentParses'. -/
def momentParsesUptoCard : Claim7 := { stood := { row := momentParsesUptoRow, standIns := [], harness := (true, "e07ef2cd96e24cf6bf96d95c97419b5d750d70840a9bace1bc8e80f2a98558a6"), looks := true }, kinds := [], alts := [], laidByText := true, laidKinds := [.data, .data, .data, .data, .sentinel, .sentinel, .pinned], laidTests := true, laidLooks := .later }
def MomentParsesUptoCardSaid : Prop := Claim7.holds Tryd.pinned (.plain (OpenSpec.upto momentParsesSpec)) momentParsesUptoCard

/-- THE SECOND FORM's CARD OF 'datakitlaw05.MomentZones'. -/
def momentZonesUptoCard : Claim7 := { stood := { row := momentZonesUptoRow, standIns := [], harness := (true, "e07ef2cd96e24cf6bf96d95c97419b5d750d70840a9bace1bc8e80f2a98558a6"), looks := true }, kinds := [], alts := [], laidByText := true, laidKinds := [.data, .data, .data, .data, .sentinel, .sentinel, .pinned], laidTests := true, laidLooks := .later }
def MomentZonesUptoCardSaid : Prop := Claim7.holds Tryd.pinned (.plain (OpenSpec.upto momentZonesSpec)) momentZonesUptoCard

/-- THE SECOND FORM's CARD OF 'datakitlaw05.MomentShifts'. -/
def momentShiftsUptoCard : Claim7 := { stood := { row := momentShiftsUptoRow, standIns := [], harness := (true, "e07ef2cd96e24cf6bf96d95c97419b5d750d70840a9bace1bc8e80f2a98558a6"), looks := true }, kinds := [], alts := [], laidByText := true, laidKinds := [.data, .data, .data, .data, .sentinel, .sentinel, .pinned], laidTests := true, laidLooks := .later }
def MomentShiftsUptoCardSaid : Prop := Claim7.holds Tryd.pinned (.plain (OpenSpec.upto momentShiftsSpec)) momentShiftsUptoCard

/-- THE SECOND FORM's CARD OF 'datakitlaw05.MomentBetween'. -/
def momentBetweenUptoCard : Claim7 := { stood := { row := momentBetweenUptoRow, standIns := [], harness := (true, "e07ef2cd96e24cf6bf96d95c97419b5d750d70840a9bace1bc8e80f2a98558a6"), looks := true }, kinds := [], alts := [], laidByText := true, laidKinds := [.data, .data, .data, .data, .sentinel, .sentinel, .pinned], laidTests := true, laidLooks := .later }
def MomentBetweenUptoCardSaid : Prop := Claim7.holds Tryd.pinned (.plain (OpenSpec.upto momentBetweenSpec)) momentBetweenUptoCard

/-- THE SECOND FORM's CARD OF 'datakitlaw05.MomentBack'. -/
def momentBackUptoCard : Claim7 := { stood := { row := momentBackUptoRow, standIns := [], harness := (true, "e07ef2cd96e24cf6bf96d95c97419b5d750d70840a9bace1bc8e80f2a98558a6"), looks := true }, kinds := [], alts := [], laidByText := true, laidKinds := [.data, .data, .data, .data, .sentinel, .sentinel, .pinned], laidTests := true, laidLooks := .later }
def MomentBackUptoCardSaid : Prop := Claim7.holds Tryd.pinned (.plain (OpenSpec.upto momentBackSpec)) momentBackUptoCard

/-- THE SECOND FORM's CARD OF 'datakitlaw05.MomentOrder'. -/
def momentOrderUptoCard : Claim7 := { stood := { row := momentOrderUptoRow, standIns := [], harness := (true, "e07ef2cd96e24cf6bf96d95c97419b5d750d70840a9bace1bc8e80f2a98558a6"), looks := true }, kinds := [], alts := [], laidByText := true, laidKinds := [.data, .data, .data, .data, .sentinel, .sentinel, .pinned], laidTests := true, laidLooks := .later }
def MomentOrderUptoCardSaid : Prop := Claim7.holds Tryd.pinned (.plain (OpenSpec.upto momentOrderSpec)) momentOrderUptoCard

/-- THE SECOND FORM's CARD OF 'datakitlaw05.MomentMoves'. -/
def momentMovesUptoCard : Claim7 := { stood := { row := momentMovesUptoRow, standIns := [], harness := (true, "e07ef2cd96e24cf6bf96d95c97419b5d750d70840a9bace1bc8e80f2a98558a6"), looks := true }, kinds := [], alts := [], laidByText := true, laidKinds := [.data, .data, .data, .data, .sentinel, .sentinel, .pinned], laidTests := true, laidLooks := .later }
def MomentMovesUptoCardSaid : Prop := Claim7.holds Tryd.pinned (.plain (OpenSpec.upto momentMovesSpec)) momentMovesUptoCard
end Rows
end Go.Proofs.YtbgkldncoigggaaDoor
