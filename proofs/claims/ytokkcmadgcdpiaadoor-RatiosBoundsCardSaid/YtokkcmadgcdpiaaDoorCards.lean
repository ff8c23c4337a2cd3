/-
  DERIVED. GIVEN WITH THE SEED: THE CARDS: each row of YtokkcmadgcdpiaaDoorRows.lean that lists a variable, with what it lists TIED to the program's text (the seventh form; the later family's looks); each row that meets fmt, with fmt's text TOLD by the authors' own Lean function (tested against real Go, not proved from fmt's source: count such statements apart). THE CARD IS WHAT COUNTS. Prove the row's statement (the work); the ties are given (YtokkcmadgcdpiaaDoorTie.lean); close each card by the builder's one call (the guide's Derived/Test/ToyasCard.lean, 'card_holds'). Laid BY PROGRAM, IN A SANDBOX (cutbox-door.mjs). By AI agents, Wed Nov 11 2026. No macro, syntax, notation, axiom, sorry.
-/
import Derived.Test.YtokkcmadgcdpiaaDoorRows
import GoSem.ClaimSeven
namespace Go.Proofs.YtokkcmadgcdpiaaDoor
namespace Rows

/-- THE TIED CARD OF 'quintadenalaw04.RatiosSigns'. -/
def ratiosSignsCard : Claim7 := { stood := { row := ratiosSignsRow, standIns := [], harness := (true, "5fdbe3f884a053050533199ba588b818770a826c587e8f6b9a1a428da71166b2"), looks := true }, kinds := [], alts := [], laidByText := true, laidKinds := [.data], laidTests := true, laidLooks := .later }
def RatiosSignsCardSaid : Prop := Claim7.holds Tryd.pinned (.plain (OpenSpec.ofChange ratiosSignsSpec)) ratiosSignsCard

/-- THE TIED CARD OF 'quintadenalaw04.RatiosFloors'. -/
def ratiosFloorsCard : Claim7 := { stood := { row := ratiosFloorsRow, standIns := [], harness := (true, "5fdbe3f884a053050533199ba588b818770a826c587e8f6b9a1a428da71166b2"), looks := true }, kinds := [], alts := [], laidByText := true, laidKinds := [.data], laidTests := true, laidLooks := .later }
def RatiosFloorsCardSaid : Prop := Claim7.holds Tryd.pinned (.plain (OpenSpec.ofChange ratiosFloorsSpec)) ratiosFloorsCard

/-- THE TIED CARD OF 'quintadenalaw04.RatiosOf'. -/
def ratiosOfCard : Claim7 := { stood := { row := ratiosOfRow, standIns := [], harness := (true, "5fdbe3f884a053050533199ba588b818770a826c587e8f6b9a1a428da71166b2"), looks := true }, kinds := [], alts := [], laidByText := true, laidKinds := [.data], laidTests := true, laidLooks := .later }
def RatiosOfCardSaid : Prop := Claim7.holds Tryd.pinned (.plain (OpenSpec.ofChange ratiosOfSpec)) ratiosOfCard

/-- THE TIED CARD OF 'quintadenalaw04.RatiosMuls'. -/
def ratiosMulsCard : Claim7 := { stood := { row := ratiosMulsRow, standIns := [], harness := (true, "5fdbe3f884a053050533199ba588b818770a826c587e8f6b9a1a428da71166b2"), looks := true }, kinds := [], alts := [], laidByText := true, laidKinds := [.data], laidTests := true, laidLooks := .later }
def RatiosMulsCardSaid : Prop := Claim7.holds Tryd.pinned (.plain (OpenSpec.ofChange ratiosMulsSpec)) ratiosMulsCard

/-- THE TIED CARD OF 'quintadenalaw04.RatiosOrders'. -/
def ratiosOrdersCard : Claim7 := { stood := { row := ratiosOrdersRow, standIns := [], harness := (true, "5fdbe3f884a053050533199ba588b818770a826c587e8f6b9a1a428da71166b2"), looks := true }, kinds := [], alts := [], laidByText := true, laidKinds := [.data], laidTests := true, laidLooks := .later }
def RatiosOrdersCardSaid : Prop := Claim7.holds Tryd.pinned (.plain (OpenSpec.ofChange ratiosOrdersSpec)) ratiosOrdersCard

/-- THE TIED CARD OF 'quintadenalaw04.RatiosExact'. -/
def ratiosExactCard : Claim7 := { stood := { row := ratiosExactRow, standIns := [], harness := (true, "5fdbe3f884a053050533199ba588b818770a826c587e8f6b9a1a428da71166b2"), looks := true }, kinds := [], alts := [], laidByText := true, laidKinds := [.data], laidTests := true, laidLooks := .later }
def RatiosExactCardSaid : Prop := Claim7.holds Tryd.pinned (.plain (OpenSpec.ofChange ratiosExactSpec)) ratiosExactCard

/-- THE TIED CARD OF 'quintadenalaw04.RatiosBounds'. -/
def ratiosBoundsCard : Claim7 := { stood := { row := ratiosBoundsRow, standIns := [], harness := (true, "5fdbe3f884a053050533199ba588b818770a826c587e8f6b9a1a428da71166b2"), looks := true }, kinds := [], alts := [], laidByText := true, laidKinds := [.data], laidTests := true, laidLooks := .later }
def RatiosBoundsCardSaid : Prop := Claim7.holds Tryd.pinned (.plain (OpenSpec.ofChange ratiosBoundsSpec)) ratiosBoundsCard

/-- THE TIED CARD OF 'quintadenalaw04.RatiosCents'. -/
def ratiosCentsCard : Claim7 := { stood := { row := ratiosCentsRow, standIns := [], harness := (true, "5fdbe3f884a053050533199ba588b818770a826c587e8f6b9a1a428da71166b2"), looks := true }, kinds := [], alts := [], laidByText := true, laidKinds := [.data], laidTests := true, laidLooks := .later }
def RatiosCentsCardSaid : Prop := Claim7.holds Tryd.pinned (.plain (OpenSpec.ofChange ratiosCentsSpec)) ratiosCentsCard

/-- THE TIED CARD OF 'quintadenalaw04.RatiosKnown'. -/
def ratiosKnownCard : Claim7 := { stood := { row := ratiosKnownRow, standIns := [], harness := (true, "5fdbe3f884a053050533199ba588b818770a826c587e8f6b9a1a428da71166b2"), looks := true }, kinds := [], alts := [], laidByText := true, laidKinds := [.data, .data, .data, .data, .sentinel, .sentinel, .data, .pinned], laidTests := true, laidLooks := .later }
def RatiosKnownCardSaid : Prop := Claim7.holds Tryd.pinned (.plain (OpenSpec.ofChange ratiosKnownSpec)) ratiosKnownCard

/-- THE SECOND FORM's CARD OF 'quintadenalaw04.RatiosSigns'. -/
def ratiosSignsUptoCard : Claim7 := { stood := { row := ratiosSignsUptoRow, standIns := [], harness := (true, "5fdbe3f884a053050533199ba588b818770a826c587e8f6b9a1a428da71166b2"), looks := true }, kinds := [], alts := [], laidByText := true, laidKinds := [.data], laidTests := true, laidLooks := .later }
def RatiosSignsUptoCardSaid : Prop := Claim7.holds Tryd.pinned (.plain (OpenSpec.upto ratiosSignsSpec)) ratiosSignsUptoCard

/-- THE SECOND FORM's CARD OF 'quintadenalaw04.RatiosFloors'. -/
def ratiosFloorsUptoCard : Claim7 := { stood := { row := ratiosFloorsUptoRow, standIns := [], harness := (true, "5fdbe3f884a053050533199ba588b818770a826c587e8f6b9a1a428da71166b2"), looks := true }, kinds := [], alts := [], laidByText := true, laidKinds := [.data], laidTests := true, laidLooks := .later }
def RatiosFloorsUptoCardSaid : Prop := Claim7.holds Tryd.pinned (.plain (OpenSpec.upto ratiosFloorsSpec)) ratiosFloorsUptoCard

/-- THE SECOND FORM's CARD OF 'quintadenalaw04.RatiosOf'. -/
def ratiosOfUptoCard : Claim7 := { stood := { row := ratiosOfUptoRow, standIns := [], harness := (true, "5fdbe3f884a053050533199ba588b818770a826c587e8f6b9a1a428da71166b2"), looks := true }, kinds := [], alts := [], laidByText := true, laidKinds := [.data], laidTests := true, laidLooks := .later }
def RatiosOfUptoCardSaid : Prop := Claim7.holds Tryd.pinned (.plain (OpenSpec.upto ratiosOfSpec)) ratiosOfUptoCard

/-- THE SECOND FORM's CARD OF 'quintadenalaw04.RatiosMuls'. -/
def ratiosMulsUptoCard : Claim7 := { stood := { row := ratiosMulsUptoRow, standIns := [], harness := (true, "5fdbe3f884a053050533199ba588b818770a826c587e8f6b9a1a428da71166b2"), looks := true }, kinds := [], alts := [], laidByText := true, laidKinds := [.data], laidTests := true, laidLooks := .later }
def RatiosMulsUptoCardSaid : Prop := Claim7.holds Tryd.pinned (.plain (OpenSpec.upto ratiosMulsSpec)) ratiosMulsUptoCard

/-- THE SECOND FORM's CARD OF 'quintadenalaw04.RatiosOrders'. -/
def ratiosOrdersUptoCard : Claim7 := { stood := { row := ratiosOrdersUptoRow, standIns := [], harness := (true, "5fdbe3f884a053050533199ba588b818770a826c587e8f6b9a1a428da71166b2"), looks := true }, kinds := [], alts := [], laidByText := true, laidKinds := [.data], laidTests := true, laidLooks := .later }
def RatiosOrdersUptoCardSaid : Prop := Claim7.holds Tryd.pinned (.plain (OpenSpec.upto ratiosOrdersSpec)) ratiosOrdersUptoCard

/-- THE SECOND FORM's CARD OF 'quintadenalaw04.RatiosExact'. -/
def ratiosExactUptoCard : Claim7 := { stood := { row := ratiosExactUptoRow, standIns := [], harness := (true, "5fdbe3f884a053050533199ba588b818770a826c587e8f6b9a1a428da71166b2"), looks := true }, kinds := [], alts := [], laidByText := true, laidKinds := [.data], laidTests := true, laidLooks := .later }
def RatiosExactUptoCardSaid : Prop := Claim7.holds Tryd.pinned (.plain (OpenSpec.upto ratiosExactSpec)) ratiosExactUptoCard

/-- THE SECOND FORM's CARD OF 'quintadenalaw04.RatiosBounds'. -/
def ratiosBoundsUptoCard : Claim7 := { stood := { row := ratiosBoundsUptoRow, standIns := [], harness := (true, "5fdbe3f884a053050533199ba588b818770a826c587e8f6b9a1a428da71166b2"), looks := true }, kinds := [], alts := [], laidByText := true, laidKinds := [.data], laidTests := true, laidLooks := .later }
def RatiosBoundsUptoCardSaid : Prop := Claim7.holds Tryd.pinned (.plain (OpenSpec.upto ratiosBoundsSpec)) ratiosBoundsUptoCard

/-- THE SECOND FORM's CARD OF 'quintadenalaw04.RatiosCents'. -/
def ratiosCentsUptoCard : Claim7 := { stood := { row := ratiosCentsUptoRow, standIns := [], harness := (true, "5fdbe3f884a053050533199ba588b818770a826c587e8f6b9a1a428da71166b2"), looks := true }, kinds := [], alts := [], laidByText := true, laidKinds := [.data], laidTests := true, laidLooks := .later }
def RatiosCentsUptoCardSaid : Prop := Claim7.holds Tryd.pinned (.plain (OpenSpec.upto ratiosCentsSpec)) ratiosCentsUptoCard

/-- THE SECOND FORM's CARD OF 'quintadenalaw04.RatiosKnown'. -/
def ratiosKnownUptoCard : Claim7 := { stood := { row := ratiosKnownUptoRow, standIns := [], harness := (true, "5fdbe3f884a053050533199ba588b818770a826c587e8f6b9a1a428da71166b2"), looks := true }, kinds := [], alts := [], laidByText := true, laidKinds := [.data, .data, .data, .data, .sentinel, .sentinel, .data, .pinned], laidTests := true, laidLooks := .later }
def RatiosKnownUptoCardSaid : Prop := Claim7.holds Tryd.pinned (.plain (OpenSpec.upto ratiosKnownSpec)) ratiosKnownUptoCard
end Rows
end Go.Proofs.YtokkcmadgcdpiaaDoor
