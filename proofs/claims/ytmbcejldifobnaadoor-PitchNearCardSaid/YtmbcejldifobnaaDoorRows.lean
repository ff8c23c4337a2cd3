/-
  NARROWER THAN 'FOR EVERY INPUT', by the rows' own cells (each row's printed sentence says how): RatiosOrders: laid · TemperCloses: laid · PitchNear: laid · PitchKnown: laid · LengthsBack: laid · LengthsRise: laid.
  DERIVED. THE GIVEN ROWS OF THIS SEAT. 6 by the template 'for every input the law returns true; each argument reads behind the call as it read before'; 0 by the template 'total and deterministic' (their statements: YtmbcejldifobnaaDoorTotals.lean).
  GIVEN WITH THE SEED: the statements are not yours to turn. If you find one false, say at which input.
  Laid BY PROGRAM, IN A SANDBOX (cutbox-rows.mjs): the forced cells as the released guide's own fill.sh prints them over the translation c519f415fdac988f… (all of the seat's roots in one cut). By AI agents, Wed Nov 11 2026. No macro, syntax, notation, axiom, sorry.
-/
import Derived.Test.YtmbcejldifobnaaDoorChecked
import GoSem.Claim
import GoSem.ClaimJoined
import GoSem.ClaimMapViews
import Derived.JoinedTies
import Derived.KernelRfl
namespace Go.Proofs.YtmbcejldifobnaaDoor
/- THE CELL 'sum', in the pinned program and in every row, IS THE sha256 OF THE DUMP (.gsa) THAT YtmbcejldifobnaaDoorProg.lean LOADS. Nothing in Lean hashes anything: it is a label: what it is worth is what the hold of that sum in a sandbox is worth. -/
noncomputable def Tryd.pinned : Pinned := { name := "ytmbcejldifobnaadoor", sum := "c519f415fdac988f114215e8a79eb0280b65a70a397c5beafdcd91cf77205c36", checked := Tryd.checked }
namespace Rows
def none {H : Type} : Left H := { results := [], args := [] }

/- WHAT THE LISTED PACKAGE-LEVEL VARIABLES READ AS WHEN THE CALL BEGINS. Each datum BY PROGRAM (the guide's laid-datum.mjs) off the statement by which the dump's own 'gosem.cut.vars' lays the variable. In a bare row this is a premise. The card (YtmbcejldifobnaaDoorCards.lean) ties it to the program's text. -/
def laid_quintadena_ratios_primes {H : Type} : DataW H := .agg [.lit (.int .i64 2), .lit (.int .i64 3), .lit (.int .i64 5), .lit (.int .i64 7), .lit (.int .i64 11), .lit (.int .i64 13)]
def laid_quintadena_lengths_kinds {H : Type} : DataW H := .agg [.agg [.lit (.int .i64 0), .lit (.int .i64 0)], .agg [.lit (.int .i64 500), .lit (.int .i64 30665)], .agg [.lit (.int .i64 250), .lit (.int .i64 0)], .agg [.lit (.int .i64 500), .lit (.int .i64 30665)]]

/-- 'quintadenalaw04.RatiosOrders': WHATEVER THE INPUT: true; the input reads as it did. -/
def ratiosOrdersSpec : ChangeSpec := { name := "ratiosOrders", fn := fun _ => fun
  | [d1, d2] => { results := [.lit (.bool true)], args := [d1, d2] }
  | _ => none }
def ratiosOrdersRow : OpenClaim := { program := "ytmbcejldifobnaadoor", sum := "c519f415fdac988f114215e8a79eb0280b65a70a397c5beafdcd91cf77205c36", func := "quintadena/quintadenalaw04.RatiosOrders", spec := "ratiosOrders", inPlace := ["math/bits.Add64"], unfollowed := true, recurses := true, named := ["quintadena/ratios.primes"], apart := false, laid := [("quintadena/ratios.primes", laid_quintadena_ratios_primes)] }
def RatiosOrdersSaid : Prop := ratiosOrdersRow.holds Tryd.pinned (OpenSpec.ofChange ratiosOrdersSpec)

/-- ITS FALSE NEIGHBOUR: 'it returns false'. Refute it at one input. -/
def ratiosOrdersWrong : ChangeSpec := { name := "ratiosOrders", fn := fun _ => fun
  | [d1, d2] => { results := [.lit (.bool false)], args := [d1, d2] }
  | _ => none }
def RatiosOrdersWrongFalsely : Prop := ratiosOrdersRow.holds Tryd.pinned (OpenSpec.ofChange ratiosOrdersWrong)

/-- 'quintadenalaw05.TemperCloses': WHATEVER THE INPUT: true; the input reads as it did. -/
def temperClosesSpec : ChangeSpec := { name := "temperCloses", fn := fun _ => fun
  | [d] => { results := [.lit (.bool true)], args := [d] }
  | _ => none }
def temperClosesRow : OpenClaim := { program := "ytmbcejldifobnaadoor", sum := "c519f415fdac988f114215e8a79eb0280b65a70a397c5beafdcd91cf77205c36", func := "quintadena/quintadenalaw05.TemperCloses", spec := "temperCloses", inPlace := ["math/bits.Add64"], unfollowed := true, recurses := true, named := ["quintadena/ratios.primes"], apart := false, laid := [("quintadena/ratios.primes", laid_quintadena_ratios_primes)] }
def TemperClosesSaid : Prop := temperClosesRow.holds Tryd.pinned (OpenSpec.ofChange temperClosesSpec)

/-- ITS FALSE NEIGHBOUR: 'it returns false'. Refute it at one input. -/
def temperClosesWrong : ChangeSpec := { name := "temperCloses", fn := fun _ => fun
  | [d] => { results := [.lit (.bool false)], args := [d] }
  | _ => none }
def TemperClosesWrongFalsely : Prop := temperClosesRow.holds Tryd.pinned (OpenSpec.ofChange temperClosesWrong)

/-- 'quintadenalaw06.PitchNear': WHATEVER THE INPUT: true; the input reads as it did. -/
def pitchNearSpec : ChangeSpec := { name := "pitchNear", fn := fun _ => fun
  | [d1, d2] => { results := [.lit (.bool true)], args := [d1, d2] }
  | _ => none }
def pitchNearRow : OpenClaim := { program := "ytmbcejldifobnaadoor", sum := "c519f415fdac988f114215e8a79eb0280b65a70a397c5beafdcd91cf77205c36", func := "quintadena/quintadenalaw06.PitchNear", spec := "pitchNear", inPlace := ["math/bits.Add64"], unfollowed := true, recurses := true, named := ["quintadena/ratios.primes"], apart := false, laid := [("quintadena/ratios.primes", laid_quintadena_ratios_primes)] }
def PitchNearSaid : Prop := pitchNearRow.holds Tryd.pinned (OpenSpec.ofChange pitchNearSpec)

/-- ITS FALSE NEIGHBOUR: 'it returns false'. Refute it at one input. -/
def pitchNearWrong : ChangeSpec := { name := "pitchNear", fn := fun _ => fun
  | [d1, d2] => { results := [.lit (.bool false)], args := [d1, d2] }
  | _ => none }
def PitchNearWrongFalsely : Prop := pitchNearRow.holds Tryd.pinned (OpenSpec.ofChange pitchNearWrong)

/-- 'quintadenalaw06.PitchKnown': WHATEVER THE INPUT: true; the input reads as it did. -/
def pitchKnownSpec : ChangeSpec := { name := "pitchKnown", fn := fun _ => fun
  | [] => { results := [.lit (.bool true)], args := [] }
  | _ => none }
def pitchKnownRow : OpenClaim := { program := "ytmbcejldifobnaadoor", sum := "c519f415fdac988f114215e8a79eb0280b65a70a397c5beafdcd91cf77205c36", func := "quintadena/quintadenalaw06.PitchKnown", spec := "pitchKnown", inPlace := ["math/bits.Add64"], unfollowed := true, recurses := true, named := ["quintadena/ratios.primes"], apart := false, laid := [("quintadena/ratios.primes", laid_quintadena_ratios_primes)] }
def PitchKnownSaid : Prop := pitchKnownRow.holds Tryd.pinned (OpenSpec.ofChange pitchKnownSpec)

/-- ITS FALSE NEIGHBOUR: 'it returns false'. Refute it at one input. -/
def pitchKnownWrong : ChangeSpec := { name := "pitchKnown", fn := fun _ => fun
  | [] => { results := [.lit (.bool false)], args := [] }
  | _ => none }
def PitchKnownWrongFalsely : Prop := pitchKnownRow.holds Tryd.pinned (OpenSpec.ofChange pitchKnownWrong)

/-- 'quintadenalaw08.LengthsBack': WHATEVER THE INPUT: true; the input reads as it did. -/
def lengthsBackSpec : ChangeSpec := { name := "lengthsBack", fn := fun _ => fun
  | [d1, d2, d3] => { results := [.lit (.bool true)], args := [d1, d2, d3] }
  | _ => none }
def lengthsBackRow : OpenClaim := { program := "ytmbcejldifobnaadoor", sum := "c519f415fdac988f114215e8a79eb0280b65a70a397c5beafdcd91cf77205c36", func := "quintadena/quintadenalaw08.LengthsBack", spec := "lengthsBack", inPlace := ["math/bits.Add64", "math/bits.Sub64"], unfollowed := true, recurses := true, named := ["quintadena/lengths.kinds", "math/bits.divideError", "math/bits.overflowError"], apart := false, laid := [("quintadena/lengths.kinds", laid_quintadena_lengths_kinds)] }
def LengthsBackSaid : Prop := lengthsBackRow.holds Tryd.pinned (OpenSpec.ofChange lengthsBackSpec)

/-- ITS FALSE NEIGHBOUR: 'it returns false'. Refute it at one input. -/
def lengthsBackWrong : ChangeSpec := { name := "lengthsBack", fn := fun _ => fun
  | [d1, d2, d3] => { results := [.lit (.bool false)], args := [d1, d2, d3] }
  | _ => none }
def LengthsBackWrongFalsely : Prop := lengthsBackRow.holds Tryd.pinned (OpenSpec.ofChange lengthsBackWrong)

/-- 'quintadenalaw08.LengthsRise': WHATEVER THE INPUT: true; the input reads as it did. -/
def lengthsRiseSpec : ChangeSpec := { name := "lengthsRise", fn := fun _ => fun
  | [d] => { results := [.lit (.bool true)], args := [d] }
  | _ => none }
def lengthsRiseRow : OpenClaim := { program := "ytmbcejldifobnaadoor", sum := "c519f415fdac988f114215e8a79eb0280b65a70a397c5beafdcd91cf77205c36", func := "quintadena/quintadenalaw08.LengthsRise", spec := "lengthsRise", inPlace := ["math/bits.Sub64", "math/bits.Add64"], unfollowed := true, recurses := true, named := ["math/bits.divideError", "math/bits.overflowError", "quintadena/lengths.kinds"], apart := false, laid := [("quintadena/lengths.kinds", laid_quintadena_lengths_kinds)] }
def LengthsRiseSaid : Prop := lengthsRiseRow.holds Tryd.pinned (OpenSpec.ofChange lengthsRiseSpec)

/-- ITS FALSE NEIGHBOUR: 'it returns false'. Refute it at one input. -/
def lengthsRiseWrong : ChangeSpec := { name := "lengthsRise", fn := fun _ => fun
  | [d] => { results := [.lit (.bool false)], args := [d] }
  | _ => none }
def LengthsRiseWrongFalsely : Prop := lengthsRiseRow.holds Tryd.pinned (OpenSpec.ofChange lengthsRiseWrong)

/- THE SECOND FORM. 'bulk': how many values and letters a reading holds, each counted each time it is reached (what is shared counts as often as it is met; a slice's spare places count too). A statement '..UptoSaid' is the law's where the arguments, and the package variables that the reading takes, are together of bulk at most 1048576: NARROWER than '..Said'. Prove '..Said' where nothing that the law and all that it calls make is longer than what came in: it says more and counts as full. Else prove '..UptoSaid'. A law counts once. -/
mutual
def uptoBulk {H : Type} : DataW H → Nat
  | .lit (.string bytes) => bytes.length + 1
  | .lit _ => 1
  | .nil => 1
  | .ptr d => uptoBulk d + 1
  | .slice elems spare => uptoBulkAll elems + uptoBulkAll spare + 1
  | .agg parts => uptoBulkAll parts + 1
  | .iface _ d => uptoBulk d + 1
  | .map entries => uptoBulkEntries entries + 1
  | .held _ => 1
def uptoBulkAll {H : Type} : List (DataW H) → Nat
  | [] => 0
  | d :: r => uptoBulk d + uptoBulkAll r
def uptoBulkEntries {H : Type} : List (Lit × DataW H) → Nat
  | [] => 0
  | x :: r => uptoBulkEntry x + uptoBulkEntries r
def uptoBulkEntry {H : Type} : Lit × DataW H → Nat
  | (.string bytes, d) => bytes.length + uptoBulk d + 1
  | (_, d) => uptoBulk d + 1
 end
def uptoSmall : (H : Type) → List (DataW H) → Bool := fun _ ds => decide (uptoBulkAll ds ≤ 1048576)
def OpenSpec.upto (s : _root_.Go.ChangeSpec) : _root_.Go.OpenSpec := { _root_.Go.OpenSpec.ofChange s with cond := some uptoSmall }

/-- 'quintadenalaw04.RatiosOrders', WHERE WHAT IT READS IS OF BULK AT MOST 1048576: true; the input reads as it did. -/
def ratiosOrdersUptoRow : OpenClaim := { program := "ytmbcejldifobnaadoor", sum := "c519f415fdac988f114215e8a79eb0280b65a70a397c5beafdcd91cf77205c36", func := "quintadena/quintadenalaw04.RatiosOrders", spec := "ratiosOrders", inPlace := ["math/bits.Add64"], unfollowed := true, recurses := true, named := ["quintadena/ratios.primes"], apart := false, laid := [("quintadena/ratios.primes", laid_quintadena_ratios_primes)], narrowed := true }
def RatiosOrdersUptoSaid : Prop := ratiosOrdersUptoRow.holds Tryd.pinned (OpenSpec.upto ratiosOrdersSpec)

/-- 'quintadenalaw05.TemperCloses', WHERE WHAT IT READS IS OF BULK AT MOST 1048576: true; the input reads as it did. -/
def temperClosesUptoRow : OpenClaim := { program := "ytmbcejldifobnaadoor", sum := "c519f415fdac988f114215e8a79eb0280b65a70a397c5beafdcd91cf77205c36", func := "quintadena/quintadenalaw05.TemperCloses", spec := "temperCloses", inPlace := ["math/bits.Add64"], unfollowed := true, recurses := true, named := ["quintadena/ratios.primes"], apart := false, laid := [("quintadena/ratios.primes", laid_quintadena_ratios_primes)], narrowed := true }
def TemperClosesUptoSaid : Prop := temperClosesUptoRow.holds Tryd.pinned (OpenSpec.upto temperClosesSpec)

/-- 'quintadenalaw06.PitchNear', WHERE WHAT IT READS IS OF BULK AT MOST 1048576: true; the input reads as it did. -/
def pitchNearUptoRow : OpenClaim := { program := "ytmbcejldifobnaadoor", sum := "c519f415fdac988f114215e8a79eb0280b65a70a397c5beafdcd91cf77205c36", func := "quintadena/quintadenalaw06.PitchNear", spec := "pitchNear", inPlace := ["math/bits.Add64"], unfollowed := true, recurses := true, named := ["quintadena/ratios.primes"], apart := false, laid := [("quintadena/ratios.primes", laid_quintadena_ratios_primes)], narrowed := true }
def PitchNearUptoSaid : Prop := pitchNearUptoRow.holds Tryd.pinned (OpenSpec.upto pitchNearSpec)

/-- 'quintadenalaw06.PitchKnown', WHERE WHAT IT READS IS OF BULK AT MOST 1048576: true; the input reads as it did. -/
def pitchKnownUptoRow : OpenClaim := { program := "ytmbcejldifobnaadoor", sum := "c519f415fdac988f114215e8a79eb0280b65a70a397c5beafdcd91cf77205c36", func := "quintadena/quintadenalaw06.PitchKnown", spec := "pitchKnown", inPlace := ["math/bits.Add64"], unfollowed := true, recurses := true, named := ["quintadena/ratios.primes"], apart := false, laid := [("quintadena/ratios.primes", laid_quintadena_ratios_primes)], narrowed := true }
def PitchKnownUptoSaid : Prop := pitchKnownUptoRow.holds Tryd.pinned (OpenSpec.upto pitchKnownSpec)

/-- 'quintadenalaw08.LengthsBack', WHERE WHAT IT READS IS OF BULK AT MOST 1048576: true; the input reads as it did. -/
def lengthsBackUptoRow : OpenClaim := { program := "ytmbcejldifobnaadoor", sum := "c519f415fdac988f114215e8a79eb0280b65a70a397c5beafdcd91cf77205c36", func := "quintadena/quintadenalaw08.LengthsBack", spec := "lengthsBack", inPlace := ["math/bits.Add64", "math/bits.Sub64"], unfollowed := true, recurses := true, named := ["quintadena/lengths.kinds", "math/bits.divideError", "math/bits.overflowError"], apart := false, laid := [("quintadena/lengths.kinds", laid_quintadena_lengths_kinds)], narrowed := true }
def LengthsBackUptoSaid : Prop := lengthsBackUptoRow.holds Tryd.pinned (OpenSpec.upto lengthsBackSpec)

/-- 'quintadenalaw08.LengthsRise', WHERE WHAT IT READS IS OF BULK AT MOST 1048576: true; the input reads as it did. -/
def lengthsRiseUptoRow : OpenClaim := { program := "ytmbcejldifobnaadoor", sum := "c519f415fdac988f114215e8a79eb0280b65a70a397c5beafdcd91cf77205c36", func := "quintadena/quintadenalaw08.LengthsRise", spec := "lengthsRise", inPlace := ["math/bits.Sub64", "math/bits.Add64"], unfollowed := true, recurses := true, named := ["math/bits.divideError", "math/bits.overflowError", "quintadena/lengths.kinds"], apart := false, laid := [("quintadena/lengths.kinds", laid_quintadena_lengths_kinds)], narrowed := true }
def LengthsRiseUptoSaid : Prop := lengthsRiseUptoRow.holds Tryd.pinned (OpenSpec.upto lengthsRiseSpec)

end Rows
end Go.Proofs.YtmbcejldifobnaaDoor
