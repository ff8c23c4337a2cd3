/-
  DERIVED. GIVEN WITH THE SEED: THE CARDS: each row of YtkoghdgfllichaaDoorRows.lean that lists a variable, with what it lists TIED to the program's text (the seventh form; the later family's looks); each row that meets fmt, with fmt's text TOLD by the authors' own Lean function (tested against real Go, not proved from fmt's source: count such statements apart). THE CARD IS WHAT COUNTS. Prove the row's statement (the work); the ties are given (YtkoghdgfllichaaDoorTie.lean); close each card by the builder's one call (the guide's Derived/Test/ToyasCard.lean, 'card_holds'). Laid BY PROGRAM, IN A SANDBOX (cutbox-door.mjs). By AI agents, Wed Nov 11 2026. No macro, syntax, notation, axiom, sorry.
-/
import Derived.Test.YtkoghdgfllichaaDoorRows
import GoSem.ClaimSeven
namespace Go.Proofs.YtkoghdgfllichaaDoor
namespace Rows

/-- THE TIED CARD OF 'quintadenalaw04.RatiosOrders'. -/
def ratiosOrdersCard : Claim7 := { stood := { row := ratiosOrdersRow, standIns := [], harness := (true, "d32c9242c6a645a104a86f4f2d6227dc59ea194e3256e38095e3f086f5ab4035"), looks := false }, kinds := [], alts := [], laidByText := true, laidKinds := [.data], laidTests := true, laidLooks := .later }
def RatiosOrdersCardSaid : Prop := Claim7.holds Tryd.pinned (.plain (OpenSpec.ofChange ratiosOrdersSpec)) ratiosOrdersCard

/-- THE TIED CARD OF 'quintadenalaw05.TemperCloses'. -/
def temperClosesCard : Claim7 := { stood := { row := temperClosesRow, standIns := [], harness := (true, "d32c9242c6a645a104a86f4f2d6227dc59ea194e3256e38095e3f086f5ab4035"), looks := false }, kinds := [], alts := [], laidByText := true, laidKinds := [.data], laidTests := true, laidLooks := .later }
def TemperClosesCardSaid : Prop := Claim7.holds Tryd.pinned (.plain (OpenSpec.ofChange temperClosesSpec)) temperClosesCard

/-- THE TIED CARD OF 'quintadenalaw06.PitchOctaves'. -/
def pitchOctavesCard : Claim7 := { stood := { row := pitchOctavesRow, standIns := [], harness := (true, "d32c9242c6a645a104a86f4f2d6227dc59ea194e3256e38095e3f086f5ab4035"), looks := false }, kinds := [], alts := [], laidByText := true, laidKinds := [.data], laidTests := true, laidLooks := .later }
def PitchOctavesCardSaid : Prop := Claim7.holds Tryd.pinned (.plain (OpenSpec.ofChange pitchOctavesSpec)) pitchOctavesCard

/-- THE TIED CARD OF 'quintadenalaw06.PitchFits'. -/
def pitchFitsCard : Claim7 := { stood := { row := pitchFitsRow, standIns := [], harness := (true, "d32c9242c6a645a104a86f4f2d6227dc59ea194e3256e38095e3f086f5ab4035"), looks := false }, kinds := [], alts := [], laidByText := true, laidKinds := [.data], laidTests := true, laidLooks := .later }
def PitchFitsCardSaid : Prop := Claim7.holds Tryd.pinned (.plain (OpenSpec.ofChange pitchFitsSpec)) pitchFitsCard

/-- THE TIED CARD OF 'quintadenalaw06.PitchNear'. -/
def pitchNearCard : Claim7 := { stood := { row := pitchNearRow, standIns := [], harness := (true, "d32c9242c6a645a104a86f4f2d6227dc59ea194e3256e38095e3f086f5ab4035"), looks := false }, kinds := [], alts := [], laidByText := true, laidKinds := [.data], laidTests := true, laidLooks := .later }
def PitchNearCardSaid : Prop := Claim7.holds Tryd.pinned (.plain (OpenSpec.ofChange pitchNearSpec)) pitchNearCard

/-- THE SECOND FORM's CARD OF 'quintadenalaw04.RatiosOrders'. -/
def ratiosOrdersUptoCard : Claim7 := { stood := { row := ratiosOrdersUptoRow, standIns := [], harness := (true, "d32c9242c6a645a104a86f4f2d6227dc59ea194e3256e38095e3f086f5ab4035"), looks := false }, kinds := [], alts := [], laidByText := true, laidKinds := [.data], laidTests := true, laidLooks := .later }
def RatiosOrdersUptoCardSaid : Prop := Claim7.holds Tryd.pinned (.plain (OpenSpec.upto ratiosOrdersSpec)) ratiosOrdersUptoCard

/-- THE SECOND FORM's CARD OF 'quintadenalaw05.TemperCloses'. -/
def temperClosesUptoCard : Claim7 := { stood := { row := temperClosesUptoRow, standIns := [], harness := (true, "d32c9242c6a645a104a86f4f2d6227dc59ea194e3256e38095e3f086f5ab4035"), looks := false }, kinds := [], alts := [], laidByText := true, laidKinds := [.data], laidTests := true, laidLooks := .later }
def TemperClosesUptoCardSaid : Prop := Claim7.holds Tryd.pinned (.plain (OpenSpec.upto temperClosesSpec)) temperClosesUptoCard

/-- THE SECOND FORM's CARD OF 'quintadenalaw06.PitchOctaves'. -/
def pitchOctavesUptoCard : Claim7 := { stood := { row := pitchOctavesUptoRow, standIns := [], harness := (true, "d32c9242c6a645a104a86f4f2d6227dc59ea194e3256e38095e3f086f5ab4035"), looks := false }, kinds := [], alts := [], laidByText := true, laidKinds := [.data], laidTests := true, laidLooks := .later }
def PitchOctavesUptoCardSaid : Prop := Claim7.holds Tryd.pinned (.plain (OpenSpec.upto pitchOctavesSpec)) pitchOctavesUptoCard

/-- THE SECOND FORM's CARD OF 'quintadenalaw06.PitchFits'. -/
def pitchFitsUptoCard : Claim7 := { stood := { row := pitchFitsUptoRow, standIns := [], harness := (true, "d32c9242c6a645a104a86f4f2d6227dc59ea194e3256e38095e3f086f5ab4035"), looks := false }, kinds := [], alts := [], laidByText := true, laidKinds := [.data], laidTests := true, laidLooks := .later }
def PitchFitsUptoCardSaid : Prop := Claim7.holds Tryd.pinned (.plain (OpenSpec.upto pitchFitsSpec)) pitchFitsUptoCard

/-- THE SECOND FORM's CARD OF 'quintadenalaw06.PitchNear'. -/
def pitchNearUptoCard : Claim7 := { stood := { row := pitchNearUptoRow, standIns := [], harness := (true, "d32c9242c6a645a104a86f4f2d6227dc59ea194e3256e38095e3f086f5ab4035"), looks := false }, kinds := [], alts := [], laidByText := true, laidKinds := [.data], laidTests := true, laidLooks := .later }
def PitchNearUptoCardSaid : Prop := Claim7.holds Tryd.pinned (.plain (OpenSpec.upto pitchNearSpec)) pitchNearUptoCard
end Rows
end Go.Proofs.YtkoghdgfllichaaDoor
