/-
  DERIVED. GIVEN WITH THE SEED: THE CARDS: each row of YtelehjdhjjedhabDoorRows.lean that lists a variable, with what it lists TIED to the program's text (the seventh form; the later family's looks); each row that meets fmt, with fmt's text TOLD by the authors' own Lean function (tested against real Go, not proved from fmt's source: count such statements apart). THE CARD IS WHAT COUNTS. Prove the row's statement (the work); the ties are given (YtelehjdhjjedhabDoorTie.lean); close each card by the builder's one call (the guide's Derived/Test/ToyasCard.lean, 'card_holds'). Laid BY PROGRAM, IN A SANDBOX (cutbox-door.mjs). By AI agents, Wed Nov 11 2026. No macro, syntax, notation, axiom, sorry.
-/
import Derived.Test.YtelehjdhjjedhabDoorRows
import GoSem.ClaimSeven
namespace Go.Proofs.YtelehjdhjjedhabDoor
namespace Rows

/-- THE TIED CARD OF 'datakitlaw02.DecimalProducts'. -/
def decimalProductsCard : Claim7 := { stood := { row := decimalProductsRow, standIns := [], harness := (true, "a18c0a45a14f77775957ec6a24f54611572e341dc226ad660f9dec94ff4c9371"), looks := false }, kinds := [], alts := [], laidByText := true, laidKinds := [.data, .data, .data, .data, .pinned], laidTests := true, laidLooks := .later }
def DecimalProductsCardSaid : Prop := Claim7.holds Tryd.pinned (.plain (OpenSpec.ofChange decimalProductsSpec)) decimalProductsCard

/-- THE TIED CARD OF 'datakitlaw02.DecimalRounds'. -/
def decimalRoundsCard : Claim7 := { stood := { row := decimalRoundsRow, standIns := [], harness := (true, "a18c0a45a14f77775957ec6a24f54611572e341dc226ad660f9dec94ff4c9371"), looks := false }, kinds := [], alts := [], laidByText := true, laidKinds := [.data, .data, .data, .data, .pinned], laidTests := true, laidLooks := .later }
def DecimalRoundsCardSaid : Prop := Claim7.holds Tryd.pinned (.plain (OpenSpec.ofChange decimalRoundsSpec)) decimalRoundsCard

/-- THE TIED CARD OF 'datakitlaw02.DecimalMods'. -/
def decimalModsCard : Claim7 := { stood := { row := decimalModsRow, standIns := [], harness := (true, "a18c0a45a14f77775957ec6a24f54611572e341dc226ad660f9dec94ff4c9371"), looks := false }, kinds := [], alts := [], laidByText := true, laidKinds := [.data, .data, .data, .data, .pinned], laidTests := true, laidLooks := .later }
def DecimalModsCardSaid : Prop := Claim7.holds Tryd.pinned (.plain (OpenSpec.ofChange decimalModsSpec)) decimalModsCard

/-- THE TIED CARD OF 'datakitlaw02.DecimalRing'. -/
def decimalRingCard : Claim7 := { stood := { row := decimalRingRow, standIns := [], harness := (true, "a18c0a45a14f77775957ec6a24f54611572e341dc226ad660f9dec94ff4c9371"), looks := false }, kinds := [], alts := [], laidByText := true, laidKinds := [.data, .data, .data, .data, .pinned], laidTests := true, laidLooks := .later }
def DecimalRingCardSaid : Prop := Claim7.holds Tryd.pinned (.plain (OpenSpec.ofChange decimalRingSpec)) decimalRingCard

/-- THE TIED CARD OF 'datakitlaw02.DecimalOrder'. -/
def decimalOrderCard : Claim7 := { stood := { row := decimalOrderRow, standIns := [], harness := (true, "a18c0a45a14f77775957ec6a24f54611572e341dc226ad660f9dec94ff4c9371"), looks := false }, kinds := [], alts := [], laidByText := true, laidKinds := [.data, .data, .data, .data, .pinned], laidTests := true, laidLooks := .later }
def DecimalOrderCardSaid : Prop := Claim7.holds Tryd.pinned (.plain (OpenSpec.ofChange decimalOrderSpec)) decimalOrderCard

/-- THE SECOND FORM's CARD OF 'datakitlaw02.DecimalProducts'. -/
def decimalProductsUptoCard : Claim7 := { stood := { row := decimalProductsUptoRow, standIns := [], harness := (true, "a18c0a45a14f77775957ec6a24f54611572e341dc226ad660f9dec94ff4c9371"), looks := false }, kinds := [], alts := [], laidByText := true, laidKinds := [.data, .data, .data, .data, .pinned], laidTests := true, laidLooks := .later }
def DecimalProductsUptoCardSaid : Prop := Claim7.holds Tryd.pinned (.plain (OpenSpec.upto decimalProductsSpec)) decimalProductsUptoCard

/-- THE SECOND FORM's CARD OF 'datakitlaw02.DecimalRounds'. -/
def decimalRoundsUptoCard : Claim7 := { stood := { row := decimalRoundsUptoRow, standIns := [], harness := (true, "a18c0a45a14f77775957ec6a24f54611572e341dc226ad660f9dec94ff4c9371"), looks := false }, kinds := [], alts := [], laidByText := true, laidKinds := [.data, .data, .data, .data, .pinned], laidTests := true, laidLooks := .later }
def DecimalRoundsUptoCardSaid : Prop := Claim7.holds Tryd.pinned (.plain (OpenSpec.upto decimalRoundsSpec)) decimalRoundsUptoCard

/-- THE SECOND FORM's CARD OF 'datakitlaw02.DecimalMods'. -/
def decimalModsUptoCard : Claim7 := { stood := { row := decimalModsUptoRow, standIns := [], harness := (true, "a18c0a45a14f77775957ec6a24f54611572e341dc226ad660f9dec94ff4c9371"), looks := false }, kinds := [], alts := [], laidByText := true, laidKinds := [.data, .data, .data, .data, .pinned], laidTests := true, laidLooks := .later }
def DecimalModsUptoCardSaid : Prop := Claim7.holds Tryd.pinned (.plain (OpenSpec.upto decimalModsSpec)) decimalModsUptoCard

/-- THE SECOND FORM's CARD OF 'datakitlaw02.DecimalRing'. -/
def decimalRingUptoCard : Claim7 := { stood := { row := decimalRingUptoRow, standIns := [], harness := (true, "a18c0a45a14f77775957ec6a24f54611572e341dc226ad660f9dec94ff4c9371"), looks := false }, kinds := [], alts := [], laidByText := true, laidKinds := [.data, .data, .data, .data, .pinned], laidTests := true, laidLooks := .later }
def DecimalRingUptoCardSaid : Prop := Claim7.holds Tryd.pinned (.plain (OpenSpec.upto decimalRingSpec)) decimalRingUptoCard

/-- THE SECOND FORM's CARD OF 'datakitlaw02.DecimalOrder'. -/
def decimalOrderUptoCard : Claim7 := { stood := { row := decimalOrderUptoRow, standIns := [], harness := (true, "a18c0a45a14f77775957ec6a24f54611572e341dc226ad660f9dec94ff4c9371"), looks := false }, kinds := [], alts := [], laidByText := true, laidKinds := [.data, .data, .data, .data, .pinned], laidTests := true, laidLooks := .later }
def DecimalOrderUptoCardSaid : Prop := Claim7.holds Tryd.pinned (.plain (OpenSpec.upto decimalOrderSpec)) decimalOrderUptoCard
end Rows
end Go.Proofs.YtelehjdhjjedhabDoor
