/-
  DERIVED. GIVEN WITH THE SEED: THE CARDS: each row of YtmbcejldifobnaaDoorRows.lean that lists a variable, with what it lists TIED to the program's text (the seventh form; the later family's looks); each row that meets fmt, with fmt's text TOLD by the authors' own Lean function (tested against real Go, not proved from fmt's source: count such statements apart). THE CARD IS WHAT COUNTS. Prove the row's statement (the work); the ties are given (YtmbcejldifobnaaDoorTie.lean); close each card by the builder's one call (the guide's Derived/Test/ToyasCard.lean, 'card_holds'). Laid BY PROGRAM, IN A SANDBOX (cutbox-door.mjs). By AI agents, Wed Nov 11 2026. No macro, syntax, notation, axiom, sorry.
-/
import Derived.Test.YtmbcejldifobnaaDoorRows
import GoSem.ClaimSeven
namespace Go.Proofs.YtmbcejldifobnaaDoor
namespace Rows

/-- THE TIED CARD OF 'quintadenalaw04.RatiosOrders'. -/
def ratiosOrdersCard : Claim7 := { stood := { row := ratiosOrdersRow, standIns := [], harness := (true, "26cdbeda0898dbbc2b2665a7c16c44428eb20ebb03eaa105c3fc843216337dfb"), looks := false }, kinds := [], alts := [], laidByText := true, laidKinds := [.data], laidTests := true, laidLooks := .later }
def RatiosOrdersCardSaid : Prop := Claim7.holds Tryd.pinned (.plain (OpenSpec.ofChange ratiosOrdersSpec)) ratiosOrdersCard

/-- THE TIED CARD OF 'quintadenalaw05.TemperCloses'. -/
def temperClosesCard : Claim7 := { stood := { row := temperClosesRow, standIns := [], harness := (true, "26cdbeda0898dbbc2b2665a7c16c44428eb20ebb03eaa105c3fc843216337dfb"), looks := false }, kinds := [], alts := [], laidByText := true, laidKinds := [.data], laidTests := true, laidLooks := .later }
def TemperClosesCardSaid : Prop := Claim7.holds Tryd.pinned (.plain (OpenSpec.ofChange temperClosesSpec)) temperClosesCard

/-- THE TIED CARD OF 'quintadenalaw06.PitchNear'. -/
def pitchNearCard : Claim7 := { stood := { row := pitchNearRow, standIns := [], harness := (true, "26cdbeda0898dbbc2b2665a7c16c44428eb20ebb03eaa105c3fc843216337dfb"), looks := false }, kinds := [], alts := [], laidByText := true, laidKinds := [.data], laidTests := true, laidLooks := .later }
def PitchNearCardSaid : Prop := Claim7.holds Tryd.pinned (.plain (OpenSpec.ofChange pitchNearSpec)) pitchNearCard

/-- THE TIED CARD OF 'quintadenalaw06.PitchKnown'. -/
def pitchKnownCard : Claim7 := { stood := { row := pitchKnownRow, standIns := [], harness := (true, "26cdbeda0898dbbc2b2665a7c16c44428eb20ebb03eaa105c3fc843216337dfb"), looks := false }, kinds := [], alts := [], laidByText := true, laidKinds := [.data], laidTests := true, laidLooks := .later }
def PitchKnownCardSaid : Prop := Claim7.holds Tryd.pinned (.plain (OpenSpec.ofChange pitchKnownSpec)) pitchKnownCard

/-- THE TIED CARD OF 'quintadenalaw08.LengthsBack'. -/
def lengthsBackCard : Claim7 := { stood := { row := lengthsBackRow, standIns := [], harness := (true, "26cdbeda0898dbbc2b2665a7c16c44428eb20ebb03eaa105c3fc843216337dfb"), looks := false }, kinds := [], alts := [], laidByText := true, laidKinds := [.data], laidTests := true, laidLooks := .later }
def LengthsBackCardSaid : Prop := Claim7.holds Tryd.pinned (.plain (OpenSpec.ofChange lengthsBackSpec)) lengthsBackCard

/-- THE TIED CARD OF 'quintadenalaw08.LengthsRise'. -/
def lengthsRiseCard : Claim7 := { stood := { row := lengthsRiseRow, standIns := [], harness := (true, "26cdbeda0898dbbc2b2665a7c16c44428eb20ebb03eaa105c3fc843216337dfb"), looks := false }, kinds := [], alts := [], laidByText := true, laidKinds := [.data], laidTests := true, laidLooks := .later }
def LengthsRiseCardSaid : Prop := Claim7.holds Tryd.pinned (.plain (OpenSpec.ofChange lengthsRiseSpec)) lengthsRiseCard

/-- THE SECOND FORM's CARD OF 'quintadenalaw04.RatiosOrders'. -/
def ratiosOrdersUptoCard : Claim7 := { stood := { row := ratiosOrdersUptoRow, standIns := [], harness := (true, "26cdbeda0898dbbc2b2665a7c16c44428eb20ebb03eaa105c3fc843216337dfb"), looks := false }, kinds := [], alts := [], laidByText := true, laidKinds := [.data], laidTests := true, laidLooks := .later }
def RatiosOrdersUptoCardSaid : Prop := Claim7.holds Tryd.pinned (.plain (OpenSpec.upto ratiosOrdersSpec)) ratiosOrdersUptoCard

/-- THE SECOND FORM's CARD OF 'quintadenalaw05.TemperCloses'. -/
def temperClosesUptoCard : Claim7 := { stood := { row := temperClosesUptoRow, standIns := [], harness := (true, "26cdbeda0898dbbc2b2665a7c16c44428eb20ebb03eaa105c3fc843216337dfb"), looks := false }, kinds := [], alts := [], laidByText := true, laidKinds := [.data], laidTests := true, laidLooks := .later }
def TemperClosesUptoCardSaid : Prop := Claim7.holds Tryd.pinned (.plain (OpenSpec.upto temperClosesSpec)) temperClosesUptoCard

/-- THE SECOND FORM's CARD OF 'quintadenalaw06.PitchNear'. -/
def pitchNearUptoCard : Claim7 := { stood := { row := pitchNearUptoRow, standIns := [], harness := (true, "26cdbeda0898dbbc2b2665a7c16c44428eb20ebb03eaa105c3fc843216337dfb"), looks := false }, kinds := [], alts := [], laidByText := true, laidKinds := [.data], laidTests := true, laidLooks := .later }
def PitchNearUptoCardSaid : Prop := Claim7.holds Tryd.pinned (.plain (OpenSpec.upto pitchNearSpec)) pitchNearUptoCard

/-- THE SECOND FORM's CARD OF 'quintadenalaw06.PitchKnown'. -/
def pitchKnownUptoCard : Claim7 := { stood := { row := pitchKnownUptoRow, standIns := [], harness := (true, "26cdbeda0898dbbc2b2665a7c16c44428eb20ebb03eaa105c3fc843216337dfb"), looks := false }, kinds := [], alts := [], laidByText := true, laidKinds := [.data], laidTests := true, laidLooks := .later }
def PitchKnownUptoCardSaid : Prop := Claim7.holds Tryd.pinned (.plain (OpenSpec.upto pitchKnownSpec)) pitchKnownUptoCard

/-- THE SECOND FORM's CARD OF 'quintadenalaw08.LengthsBack'. -/
def lengthsBackUptoCard : Claim7 := { stood := { row := lengthsBackUptoRow, standIns := [], harness := (true, "26cdbeda0898dbbc2b2665a7c16c44428eb20ebb03eaa105c3fc843216337dfb"), looks := false }, kinds := [], alts := [], laidByText := true, laidKinds := [.data], laidTests := true, laidLooks := .later }
def LengthsBackUptoCardSaid : Prop := Claim7.holds Tryd.pinned (.plain (OpenSpec.upto lengthsBackSpec)) lengthsBackUptoCard

/-- THE SECOND FORM's CARD OF 'quintadenalaw08.LengthsRise'. -/
def lengthsRiseUptoCard : Claim7 := { stood := { row := lengthsRiseUptoRow, standIns := [], harness := (true, "26cdbeda0898dbbc2b2665a7c16c44428eb20ebb03eaa105c3fc843216337dfb"), looks := false }, kinds := [], alts := [], laidByText := true, laidKinds := [.data], laidTests := true, laidLooks := .later }
def LengthsRiseUptoCardSaid : Prop := Claim7.holds Tryd.pinned (.plain (OpenSpec.upto lengthsRiseSpec)) lengthsRiseUptoCard
end Rows
end Go.Proofs.YtmbcejldifobnaaDoor
