/-
  DERIVED. GIVEN WITH THE SEED: THE CARDS: each row of YtlababdfdjjjaaaGreatDoorRows.lean that lists a variable, with what it lists TIED to the program's text (the seventh form; the later family's looks); each row that meets fmt, with fmt's text TOLD by the authors' own Lean function (tested against real Go, not proved from fmt's source: count such statements apart). THE CARD IS WHAT COUNTS. Prove the row's statement (the work); the ties are given (YtlababdfdjjjaaaGreatDoorTie.lean); close each card by the builder's one call (the guide's Derived/Test/ToyasCard.lean, 'card_holds'). Laid BY PROGRAM, IN A SANDBOX (cutbox-door.mjs). By AI agents, Wed Nov 11 2026. No macro, syntax, notation, axiom, sorry.
-/
import Derived.Test.YtlababdfdjjjaaaGreatDoorRows
import GoSem.ClaimSeven
namespace Go.Proofs.YtlababdfdjjjaaaGreatDoor
namespace Rows

/-- THE TIED CARD OF 'quintadenalaw02.WideNumbers'. -/
def wideNumbersCard : Claim7 := { stood := { row := wideNumbersRow, standIns := [], harness := (true, "83b902e26a019a75c5698ceb7c205af647a7910ed111bd591ca42fe2900cb225"), looks := true }, kinds := [], alts := [], laidByText := true, laidKinds := [.data, .data, .data, .data, .pinned], laidTests := true, laidLooks := .later }
def WideNumbersCardSaid : Prop := Claim7.holds Tryz.pinned (.plain (OpenSpec.ofChange wideNumbersSpec)) wideNumbersCard

/-- THE TIED CARD OF 'quintadenalaw02.WideTexts'. -/
def wideTextsCard : Claim7 := { stood := { row := wideTextsRow, standIns := [], harness := (true, "83b902e26a019a75c5698ceb7c205af647a7910ed111bd591ca42fe2900cb225"), looks := true }, kinds := [], alts := [], laidByText := true, laidKinds := [.data, .data, .data, .data, .sentinel, .sentinel, .pinned], laidTests := true, laidLooks := .later }
def WideTextsCardSaid : Prop := Claim7.holds Tryz.pinned (.plain (OpenSpec.ofChange wideTextsSpec)) wideTextsCard

/-- THE TIED CARD OF 'quintadenalaw02.WideOrders'. -/
def wideOrdersCard : Claim7 := { stood := { row := wideOrdersRow, standIns := [], harness := (true, "83b902e26a019a75c5698ceb7c205af647a7910ed111bd591ca42fe2900cb225"), looks := true }, kinds := [], alts := [], laidByText := true, laidKinds := [.data, .data, .data, .data, .pinned], laidTests := true, laidLooks := .later }
def WideOrdersCardSaid : Prop := Claim7.holds Tryz.pinned (.plain (OpenSpec.ofChange wideOrdersSpec)) wideOrdersCard

/-- THE TIED CARD OF 'quintadenalaw02.WideAdds'. -/
def wideAddsCard : Claim7 := { stood := { row := wideAddsRow, standIns := [], harness := (true, "83b902e26a019a75c5698ceb7c205af647a7910ed111bd591ca42fe2900cb225"), looks := true }, kinds := [], alts := [], laidByText := true, laidKinds := [.data, .data, .data, .data, .pinned], laidTests := true, laidLooks := .later }
def WideAddsCardSaid : Prop := Claim7.holds Tryz.pinned (.plain (OpenSpec.ofChange wideAddsSpec)) wideAddsCard

/-- THE TIED CARD OF 'quintadenalaw02.WideDivides'. -/
def wideDividesCard : Claim7 := { stood := { row := wideDividesRow, standIns := [], harness := (true, "83b902e26a019a75c5698ceb7c205af647a7910ed111bd591ca42fe2900cb225"), looks := true }, kinds := [], alts := [], laidByText := true, laidKinds := [.data, .data, .data, .data, .pinned], laidTests := true, laidLooks := .later }
def WideDividesCardSaid : Prop := Claim7.holds Tryz.pinned (.plain (OpenSpec.ofChange wideDividesSpec)) wideDividesCard

/-- THE TIED CARD OF 'quintadenalaw02.WidePowers'. -/
def widePowersCard : Claim7 := { stood := { row := widePowersRow, standIns := [], harness := (true, "83b902e26a019a75c5698ceb7c205af647a7910ed111bd591ca42fe2900cb225"), looks := true }, kinds := [], alts := [], laidByText := true, laidKinds := [.data, .data, .data, .data, .pinned], laidTests := true, laidLooks := .later }
def WidePowersCardSaid : Prop := Claim7.holds Tryz.pinned (.plain (OpenSpec.ofChange widePowersSpec)) widePowersCard

/-- THE TIED CARD OF 'quintadenalaw02.WideQuos'. -/
def wideQuosCard : Claim7 := { stood := { row := wideQuosRow, standIns := [], harness := (true, "83b902e26a019a75c5698ceb7c205af647a7910ed111bd591ca42fe2900cb225"), looks := true }, kinds := [], alts := [], laidByText := true, laidKinds := [.data, .data, .data, .data, .pinned], laidTests := true, laidLooks := .later }
def WideQuosCardSaid : Prop := Claim7.holds Tryz.pinned (.plain (OpenSpec.ofChange wideQuosSpec)) wideQuosCard

/-- THE TIED CARD OF 'quintadenalaw02.WideShares'. -/
def wideSharesCard : Claim7 := { stood := { row := wideSharesRow, standIns := [], harness := (true, "83b902e26a019a75c5698ceb7c205af647a7910ed111bd591ca42fe2900cb225"), looks := true }, kinds := [], alts := [], laidByText := true, laidKinds := [.data, .data, .data, .data, .pinned], laidTests := true, laidLooks := .later }
def WideSharesCardSaid : Prop := Claim7.holds Tryz.pinned (.plain (OpenSpec.ofChange wideSharesSpec)) wideSharesCard

/-- THE TIED CARD OF 'quintadenalaw02.WideRing'. -/
def wideRingCard : Claim7 := { stood := { row := wideRingRow, standIns := [], harness := (true, "83b902e26a019a75c5698ceb7c205af647a7910ed111bd591ca42fe2900cb225"), looks := true }, kinds := [], alts := [], laidByText := true, laidKinds := [.data, .data, .data, .data, .pinned], laidTests := true, laidLooks := .later }
def WideRingCardSaid : Prop := Claim7.holds Tryz.pinned (.plain (OpenSpec.ofChange wideRingSpec)) wideRingCard

/-- THE TIED CARD OF 'quintadenalaw02.WideRoots'. -/
def wideRootsCard : Claim7 := { stood := { row := wideRootsRow, standIns := [], harness := (true, "83b902e26a019a75c5698ceb7c205af647a7910ed111bd591ca42fe2900cb225"), looks := true }, kinds := [], alts := [], laidByText := true, laidKinds := [.data, .data, .data, .data, .pinned], laidTests := true, laidLooks := .later }
def WideRootsCardSaid : Prop := Claim7.holds Tryz.pinned (.plain (OpenSpec.ofChange wideRootsSpec)) wideRootsCard

/-- THE TIED CARD OF 'quintadenalaw02.WideCommon'. -/
def wideCommonCard : Claim7 := { stood := { row := wideCommonRow, standIns := [], harness := (true, "83b902e26a019a75c5698ceb7c205af647a7910ed111bd591ca42fe2900cb225"), looks := true }, kinds := [], alts := [], laidByText := true, laidKinds := [.data, .data, .data, .data, .sentinel, .sentinel, .pinned], laidTests := true, laidLooks := .later }
def WideCommonCardSaid : Prop := Claim7.holds Tryz.pinned (.plain (OpenSpec.ofChange wideCommonSpec)) wideCommonCard

/-- THE TIED CARD OF 'quintadenalaw02.WideField'. -/
def wideFieldCard : Claim7 := { stood := { row := wideFieldRow, standIns := [], harness := (true, "83b902e26a019a75c5698ceb7c205af647a7910ed111bd591ca42fe2900cb225"), looks := true }, kinds := [], alts := [], laidByText := true, laidKinds := [.data, .data, .data, .data, .pinned], laidTests := true, laidLooks := .later }
def WideFieldCardSaid : Prop := Claim7.holds Tryz.pinned (.plain (OpenSpec.ofChange wideFieldSpec)) wideFieldCard

/-- THE SECOND FORM's CARD OF 'quintadenalaw02.WideNumbers'. -/
def wideNumbersUptoCard : Claim7 := { stood := { row := wideNumbersUptoRow, standIns := [], harness := (true, "83b902e26a019a75c5698ceb7c205af647a7910ed111bd591ca42fe2900cb225"), looks := true }, kinds := [], alts := [], laidByText := true, laidKinds := [.data, .data, .data, .data, .pinned], laidTests := true, laidLooks := .later }
def WideNumbersUptoCardSaid : Prop := Claim7.holds Tryz.pinned (.plain (OpenSpec.upto wideNumbersSpec)) wideNumbersUptoCard

/-- THE SECOND FORM's CARD OF 'quintadenalaw02.WideTexts'. -/
def wideTextsUptoCard : Claim7 := { stood := { row := wideTextsUptoRow, standIns := [], harness := (true, "83b902e26a019a75c5698ceb7c205af647a7910ed111bd591ca42fe2900cb225"), looks := true }, kinds := [], alts := [], laidByText := true, laidKinds := [.data, .data, .data, .data, .sentinel, .sentinel, .pinned], laidTests := true, laidLooks := .later }
def WideTextsUptoCardSaid : Prop := Claim7.holds Tryz.pinned (.plain (OpenSpec.upto wideTextsSpec)) wideTextsUptoCard

/-- THE SECOND FORM's CARD OF 'quintadenalaw02.WideOrders'. -/
def wideOrdersUptoCard : Claim7 := { stood := { row := wideOrdersUptoRow, standIns := [], harness := (true, "83b902e26a019a75c5698ceb7c205af647a7910ed111bd591ca42fe2900cb225"), looks := true }, kinds := [], alts := [], laidByText := true, laidKinds := [.data, .data, .data, .data, .pinned], laidTests := true, laidLooks := .later }
def WideOrdersUptoCardSaid : Prop := Claim7.holds Tryz.pinned (.plain (OpenSpec.upto wideOrdersSpec)) wideOrdersUptoCard

/-- THE SECOND FORM's CARD OF 'quintadenalaw02.WideAdds'. -/
def wideAddsUptoCard : Claim7 := { stood := { row := wideAddsUptoRow, standIns := [], harness := (true, "83b902e26a019a75c5698ceb7c205af647a7910ed111bd591ca42fe2900cb225"), looks := true }, kinds := [], alts := [], laidByText := true, laidKinds := [.data, .data, .data, .data, .pinned], laidTests := true, laidLooks := .later }
def WideAddsUptoCardSaid : Prop := Claim7.holds Tryz.pinned (.plain (OpenSpec.upto wideAddsSpec)) wideAddsUptoCard

/-- THE SECOND FORM's CARD OF 'quintadenalaw02.WideDivides'. -/
def wideDividesUptoCard : Claim7 := { stood := { row := wideDividesUptoRow, standIns := [], harness := (true, "83b902e26a019a75c5698ceb7c205af647a7910ed111bd591ca42fe2900cb225"), looks := true }, kinds := [], alts := [], laidByText := true, laidKinds := [.data, .data, .data, .data, .pinned], laidTests := true, laidLooks := .later }
def WideDividesUptoCardSaid : Prop := Claim7.holds Tryz.pinned (.plain (OpenSpec.upto wideDividesSpec)) wideDividesUptoCard

/-- THE SECOND FORM's CARD OF 'quintadenalaw02.WidePowers'. -/
def widePowersUptoCard : Claim7 := { stood := { row := widePowersUptoRow, standIns := [], harness := (true, "83b902e26a019a75c5698ceb7c205af647a7910ed111bd591ca42fe2900cb225"), looks := true }, kinds := [], alts := [], laidByText := true, laidKinds := [.data, .data, .data, .data, .pinned], laidTests := true, laidLooks := .later }
def WidePowersUptoCardSaid : Prop := Claim7.holds Tryz.pinned (.plain (OpenSpec.upto widePowersSpec)) widePowersUptoCard

/-- THE SECOND FORM's CARD OF 'quintadenalaw02.WideQuos'. -/
def wideQuosUptoCard : Claim7 := { stood := { row := wideQuosUptoRow, standIns := [], harness := (true, "83b902e26a019a75c5698ceb7c205af647a7910ed111bd591ca42fe2900cb225"), looks := true }, kinds := [], alts := [], laidByText := true, laidKinds := [.data, .data, .data, .data, .pinned], laidTests := true, laidLooks := .later }
def WideQuosUptoCardSaid : Prop := Claim7.holds Tryz.pinned (.plain (OpenSpec.upto wideQuosSpec)) wideQuosUptoCard

/-- THE SECOND FORM's CARD OF 'quintadenalaw02.WideShares'. -/
def wideSharesUptoCard : Claim7 := { stood := { row := wideSharesUptoRow, standIns := [], harness := (true, "83b902e26a019a75c5698ceb7c205af647a7910ed111bd591ca42fe2900cb225"), looks := true }, kinds := [], alts := [], laidByText := true, laidKinds := [.data, .data, .data, .data, .pinned], laidTests := true, laidLooks := .later }
def WideSharesUptoCardSaid : Prop := Claim7.holds Tryz.pinned (.plain (OpenSpec.upto wideSharesSpec)) wideSharesUptoCard

/-- THE SECOND FORM's CARD OF 'quintadenalaw02.WideRing'. -/
def wideRingUptoCard : Claim7 := { stood := { row := wideRingUptoRow, standIns := [], harness := (true, "83b902e26a019a75c5698ceb7c205af647a7910ed111bd591ca42fe2900cb225"), looks := true }, kinds := [], alts := [], laidByText := true, laidKinds := [.data, .data, .data, .data, .pinned], laidTests := true, laidLooks := .later }
def WideRingUptoCardSaid : Prop := Claim7.holds Tryz.pinned (.plain (OpenSpec.upto wideRingSpec)) wideRingUptoCard

/-- THE SECOND FORM's CARD OF 'quintadenalaw02.WideRoots'. -/
def wideRootsUptoCard : Claim7 := { stood := { row := wideRootsUptoRow, standIns := [], harness := (true, "83b902e26a019a75c5698ceb7c205af647a7910ed111bd591ca42fe2900cb225"), looks := true }, kinds := [], alts := [], laidByText := true, laidKinds := [.data, .data, .data, .data, .pinned], laidTests := true, laidLooks := .later }
def WideRootsUptoCardSaid : Prop := Claim7.holds Tryz.pinned (.plain (OpenSpec.upto wideRootsSpec)) wideRootsUptoCard

/-- THE SECOND FORM's CARD OF 'quintadenalaw02.WideCommon'. -/
def wideCommonUptoCard : Claim7 := { stood := { row := wideCommonUptoRow, standIns := [], harness := (true, "83b902e26a019a75c5698ceb7c205af647a7910ed111bd591ca42fe2900cb225"), looks := true }, kinds := [], alts := [], laidByText := true, laidKinds := [.data, .data, .data, .data, .sentinel, .sentinel, .pinned], laidTests := true, laidLooks := .later }
def WideCommonUptoCardSaid : Prop := Claim7.holds Tryz.pinned (.plain (OpenSpec.upto wideCommonSpec)) wideCommonUptoCard

/-- THE SECOND FORM's CARD OF 'quintadenalaw02.WideField'. -/
def wideFieldUptoCard : Claim7 := { stood := { row := wideFieldUptoRow, standIns := [], harness := (true, "83b902e26a019a75c5698ceb7c205af647a7910ed111bd591ca42fe2900cb225"), looks := true }, kinds := [], alts := [], laidByText := true, laidKinds := [.data, .data, .data, .data, .pinned], laidTests := true, laidLooks := .later }
def WideFieldUptoCardSaid : Prop := Claim7.holds Tryz.pinned (.plain (OpenSpec.upto wideFieldSpec)) wideFieldUptoCard
end Rows
end Go.Proofs.YtlababdfdjjjaaaGreatDoor
