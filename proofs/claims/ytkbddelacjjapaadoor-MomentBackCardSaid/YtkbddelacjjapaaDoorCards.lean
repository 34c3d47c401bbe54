/-
  DERIVED. GIVEN WITH THE SEED: THE CARDS: each row of YtkbddelacjjapaaDoorRows.lean that lists a variable, with what it lists TIED to the program's text (the seventh form; the later family's looks); each row that meets fmt, with fmt's text TOLD by the authors' own Lean function (tested against real Go, not proved from fmt's source: count such statements apart). THE CARD IS WHAT COUNTS. Prove the row's statement (the work); the ties are given (YtkbddelacjjapaaDoorTie.lean); close each card by the builder's one call (the guide's Derived/Test/ToyasCard.lean, 'card_holds'). Laid BY PROGRAM, IN A SANDBOX (cutbox-door.mjs). By AI agents, Wed Nov 11 2026. No macro, syntax, notation, axiom, sorry.
-/
import Derived.Test.YtkbddelacjjapaaDoorRows
import GoSem.ClaimSeven
namespace Go.Proofs.YtkbddelacjjapaaDoor
namespace Rows

/-- THE TIED CARD OF 'datakitlaw05.MomentOrder'. -/
def momentOrderCard : Claim7 := { stood := { row := momentOrderRow, standIns := [], harness := (true, "021471d68af9e6f0b0c49ff770bfadaeef5c88e3f4a8e34e1a2e90d9876d384d"), looks := true }, kinds := [], alts := [], laidByText := true, laidKinds := [.data, .data, .data, .data, .sentinel, .sentinel, .pinned], laidTests := true, laidLooks := .later }
def MomentOrderCardSaid : Prop := Claim7.holds Tryd.pinned (.plain (OpenSpec.ofChange momentOrderSpec)) momentOrderCard

/-- THE TIED CARD OF 'datakitlaw05.MomentBack'. -/
def momentBackCard : Claim7 := { stood := { row := momentBackRow, standIns := [], harness := (true, "021471d68af9e6f0b0c49ff770bfadaeef5c88e3f4a8e34e1a2e90d9876d384d"), looks := true }, kinds := [], alts := [], laidByText := true, laidKinds := [.data, .data, .data, .data, .sentinel, .sentinel, .pinned], laidTests := true, laidLooks := .later }
def MomentBackCardSaid : Prop := Claim7.holds Tryd.pinned (.plain (OpenSpec.ofChange momentBackSpec)) momentBackCard

/-- THE TIED CARD OF 'datakitlaw05.MomentParses'. -/
def momentParsesCard : Claim7 := { stood := { row := momentParsesRow, standIns := [], harness := (true, "021471d68af9e6f0b0c49ff770bfadaeef5c88e3f4a8e34e1a2e90d9876d384d"), looks := true }, kinds := [], alts := [], laidByText := true, laidKinds := [.data, .data, .data, .data, .sentinel, .sentinel, .pinned], laidTests := true, laidLooks := .later }
def MomentParsesCardSaid : Prop := Claim7.holds Tryd.pinned (.plain (OpenSpec.ofChange momentParsesSpec)) momentParsesCard

/-- THE SECOND FORM's CARD OF 'datakitlaw05.MomentOrder'. -/
def momentOrderUptoCard : Claim7 := { stood := { row := momentOrderUptoRow, standIns := [], harness := (true, "021471d68af9e6f0b0c49ff770bfadaeef5c88e3f4a8e34e1a2e90d9876d384d"), looks := true }, kinds := [], alts := [], laidByText := true, laidKinds := [.data, .data, .data, .data, .sentinel, .sentinel, .pinned], laidTests := true, laidLooks := .later }
def MomentOrderUptoCardSaid : Prop := Claim7.holds Tryd.pinned (.plain (OpenSpec.upto momentOrderSpec)) momentOrderUptoCard

/-- THE SECOND FORM's CARD OF 'datakitlaw05.MomentBack'. -/
def momentBackUptoCard : Claim7 := { stood := { row := momentBackUptoRow, standIns := [], harness := (true, "021471d68af9e6f0b0c49ff770bfadaeef5c88e3f4a8e34e1a2e90d9876d384d"), looks := true }, kinds := [], alts := [], laidByText := true, laidKinds := [.data, .data, .data, .data, .sentinel, .sentinel, .pinned], laidTests := true, laidLooks := .later }
def MomentBackUptoCardSaid : Prop := Claim7.holds Tryd.pinned (.plain (OpenSpec.upto momentBackSpec)) momentBackUptoCard

/-- THE SECOND FORM's CARD OF 'datakitlaw05.MomentParses'. -/
def momentParsesUptoCard : Claim7 := { stood := { row := momentParsesUptoRow, standIns := [], harness := (true, "021471d68af9e6f0b0c49ff770bfadaeef5c88e3f4a8e34e1a2e90d9876d384d"), looks := true }, kinds := [], alts := [], laidByText := true, laidKinds := [.data, .data, .data, .data, .sentinel, .sentinel, .pinned], laidTests := true, laidLooks := .later }
def MomentParsesUptoCardSaid : Prop := Claim7.holds Tryd.pinned (.plain (OpenSpec.upto momentParsesSpec)) momentParsesUptoCard
end Rows
end Go.Proofs.YtkbddelacjjapaaDoor
