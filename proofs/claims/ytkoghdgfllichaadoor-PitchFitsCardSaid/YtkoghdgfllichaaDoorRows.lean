/-
  NARROWER THAN 'FOR EVERY INPUT', by the rows' own cells (each row's printed sentence says how): RatiosOrders: laid · TemperCloses: laid · PitchOctaves: laid · PitchFits: laid · PitchNear: laid.
  DERIVED. THE GIVEN ROWS OF THIS SEAT. 5 by the template 'for every input the law returns true; each argument reads behind the call as it read before'; 0 by the template 'total and deterministic' (their statements: YtkoghdgfllichaaDoorTotals.lean).
  GIVEN WITH THE SEED: the statements are not yours to turn. If you find one false, say at which input.
  Laid BY PROGRAM, IN A SANDBOX (cutbox-rows.mjs): the forced cells as the released guide's own fill.sh prints them over the translation 5501292bbb6a37e9… (all of the seat's roots in one cut). By AI agents, Wed Nov 11 2026. No macro, syntax, notation, axiom, sorry.
-/
import Derived.Test.YtkoghdgfllichaaDoorChecked
import GoSem.Claim
import GoSem.ClaimJoined
import GoSem.ClaimMapViews
import Derived.JoinedTies
import Derived.KernelRfl
namespace Go.Proofs.YtkoghdgfllichaaDoor
/- THE CELL 'sum', in the pinned program and in every row, IS THE sha256 OF THE DUMP (.gsa) THAT YtkoghdgfllichaaDoorProg.lean LOADS. Nothing in Lean hashes anything: it is a label: what it is worth is what the hold of that sum in a sandbox is worth. -/
noncomputable def Tryd.pinned : Pinned := { name := "ytkoghdgfllichaadoor", sum := "5501292bbb6a37e960131a18b603cc6f3ac1dde9e1d547b5a336f0ee52c34663", checked := Tryd.checked }
namespace Rows
def none {H : Type} : Left H := { results := [], args := [] }

/- WHAT THE LISTED PACKAGE-LEVEL VARIABLES READ AS WHEN THE CALL BEGINS. Each datum BY PROGRAM (the guide's laid-datum.mjs) off the statement by which the dump's own 'gosem.cut.vars' lays the variable. In a bare row this is a premise. The card (YtkoghdgfllichaaDoorCards.lean) ties it to the program's text. -/
def laid_quintadena_ratios_primes {H : Type} : DataW H := .agg [.lit (.int .i64 2), .lit (.int .i64 3), .lit (.int .i64 5), .lit (.int .i64 7), .lit (.int .i64 11), .lit (.int .i64 13)]

/-- 'quintadenalaw04.RatiosOrders': WHATEVER THE INPUT: true; the input reads as it did. -/
def ratiosOrdersSpec : ChangeSpec := { name := "ratiosOrders", fn := fun _ => fun
  | [d1, d2] => { results := [.lit (.bool true)], args := [d1, d2] }
  | _ => none }
def ratiosOrdersRow : OpenClaim := { program := "ytkoghdgfllichaadoor", sum := "5501292bbb6a37e960131a18b603cc6f3ac1dde9e1d547b5a336f0ee52c34663", func := "quintadena/quintadenalaw04.RatiosOrders", spec := "ratiosOrders", inPlace := ["math/bits.Add64"], unfollowed := true, recurses := true, named := ["quintadena/ratios.primes"], apart := false, laid := [("quintadena/ratios.primes", laid_quintadena_ratios_primes)] }
def RatiosOrdersSaid : Prop := ratiosOrdersRow.holds Tryd.pinned (OpenSpec.ofChange ratiosOrdersSpec)

/-- ITS FALSE NEIGHBOUR: 'it returns false'. Refute it at one input. -/
def ratiosOrdersWrong : ChangeSpec := { name := "ratiosOrders", fn := fun _ => fun
  | [d1, d2] => { results := [.lit (.bool false)], args := [d1, d2] }
  | _ => none }
def RatiosOrdersWrongFalsely : Prop := ratiosOrdersRow.holds Tryd.pinned (OpenSpec.ofChange ratiosOrdersWrong)

/-- 'quintadenalaw05.TemperCloses': WHATEVER THE INPUT: true; the input reads as it did. -/
def temperClosesSpec : ChangeSpec := { name := "temperCloses", fn := fun _ => fun
  | [d] => { results := [.lit (.bool true)], args := [d] }
  | _ => none }
def temperClosesRow : OpenClaim := { program := "ytkoghdgfllichaadoor", sum := "5501292bbb6a37e960131a18b603cc6f3ac1dde9e1d547b5a336f0ee52c34663", func := "quintadena/quintadenalaw05.TemperCloses", spec := "temperCloses", inPlace := ["math/bits.Add64"], unfollowed := true, recurses := true, named := ["quintadena/ratios.primes"], apart := false, laid := [("quintadena/ratios.primes", laid_quintadena_ratios_primes)] }
def TemperClosesSaid : Prop := temperClosesRow.holds Tryd.pinned (OpenSpec.ofChange temperClosesSpec)

/-- ITS FALSE NEIGHBOUR: 'it returns false'. Refute it at one input. -/
def temperClosesWrong : ChangeSpec := { name := "temperCloses", fn := fun _ => fun
  | [d] => { results := [.lit (.bool false)], args := [d] }
  | _ => none }
def TemperClosesWrongFalsely : Prop := temperClosesRow.holds Tryd.pinned (OpenSpec.ofChange temperClosesWrong)

/-- 'quintadenalaw06.PitchOctaves': WHATEVER THE INPUT: true; the input reads as it did. -/
def pitchOctavesSpec : ChangeSpec := { name := "pitchOctaves", fn := fun _ => fun
  | [d1, d2] => { results := [.lit (.bool true)], args := [d1, d2] }
  | _ => none }
def pitchOctavesRow : OpenClaim := { program := "ytkoghdgfllichaadoor", sum := "5501292bbb6a37e960131a18b603cc6f3ac1dde9e1d547b5a336f0ee52c34663", func := "quintadena/quintadenalaw06.PitchOctaves", spec := "pitchOctaves", inPlace := ["math/bits.Add64"], unfollowed := true, recurses := true, named := ["quintadena/ratios.primes"], apart := false, laid := [("quintadena/ratios.primes", laid_quintadena_ratios_primes)] }
def PitchOctavesSaid : Prop := pitchOctavesRow.holds Tryd.pinned (OpenSpec.ofChange pitchOctavesSpec)

/-- ITS FALSE NEIGHBOUR: 'it returns false'. Refute it at one input. -/
def pitchOctavesWrong : ChangeSpec := { name := "pitchOctaves", fn := fun _ => fun
  | [d1, d2] => { results := [.lit (.bool false)], args := [d1, d2] }
  | _ => none }
def PitchOctavesWrongFalsely : Prop := pitchOctavesRow.holds Tryd.pinned (OpenSpec.ofChange pitchOctavesWrong)

/-- 'quintadenalaw06.PitchFits': WHATEVER THE INPUT: true; the input reads as it did. -/
def pitchFitsSpec : ChangeSpec := { name := "pitchFits", fn := fun _ => fun
  | [d1, d2, d3] => { results := [.lit (.bool true)], args := [d1, d2, d3] }
  | _ => none }
def pitchFitsRow : OpenClaim := { program := "ytkoghdgfllichaadoor", sum := "5501292bbb6a37e960131a18b603cc6f3ac1dde9e1d547b5a336f0ee52c34663", func := "quintadena/quintadenalaw06.PitchFits", spec := "pitchFits", inPlace := ["math/bits.Add64"], unfollowed := true, recurses := true, named := ["quintadena/ratios.primes"], apart := false, laid := [("quintadena/ratios.primes", laid_quintadena_ratios_primes)] }
def PitchFitsSaid : Prop := pitchFitsRow.holds Tryd.pinned (OpenSpec.ofChange pitchFitsSpec)

/-- ITS FALSE NEIGHBOUR: 'it returns false'. Refute it at one input. -/
def pitchFitsWrong : ChangeSpec := { name := "pitchFits", fn := fun _ => fun
  | [d1, d2, d3] => { results := [.lit (.bool false)], args := [d1, d2, d3] }
  | _ => none }
def PitchFitsWrongFalsely : Prop := pitchFitsRow.holds Tryd.pinned (OpenSpec.ofChange pitchFitsWrong)

/-- 'quintadenalaw06.PitchNear': WHATEVER THE INPUT: true; the input reads as it did. -/
def pitchNearSpec : ChangeSpec := { name := "pitchNear", fn := fun _ => fun
  | [d1, d2] => { results := [.lit (.bool true)], args := [d1, d2] }
  | _ => none }
def pitchNearRow : OpenClaim := { program := "ytkoghdgfllichaadoor", sum := "5501292bbb6a37e960131a18b603cc6f3ac1dde9e1d547b5a336f0ee52c34663", func := "quintadena/quintadenalaw06.PitchNear", spec := "pitchNear", inPlace := ["math/bits.Add64"], unfollowed := true, recurses := true, named := ["quintadena/ratios.primes"], apart := false, laid := [("quintadena/ratios.primes", laid_quintadena_ratios_primes)] }
def PitchNearSaid : Prop := pitchNearRow.holds Tryd.pinned (OpenSpec.ofChange pitchNearSpec)

/-- ITS FALSE NEIGHBOUR: 'it returns false'. Refute it at one input. -/
def pitchNearWrong : ChangeSpec := { name := "pitchNear", fn := fun _ => fun
  | [d1, d2] => { results := [.lit (.bool false)], args := [d1, d2] }
  | _ => none }
def PitchNearWrongFalsely : Prop := pitchNearRow.holds Tryd.pinned (OpenSpec.ofChange pitchNearWrong)

/- THE SECOND FORM. 'bulk': how many values and letters a reading holds, each counted each time it is reached (what is shared counts as often as it is met; a slice's spare places count too). A statement '..UptoSaid' is the law's where the arguments, and the package variables that the reading takes, are together of bulk at most 1048576: NARROWER than '..Said'. Prove '..Said' where nothing that the law and all that it calls make is longer than what came in: it says more and counts as full. Else prove '..UptoSaid'. A law counts once. -/
mutual
def uptoBulk {H : Type} : DataW H → Nat
  | .lit (.string bytes) => bytes.length + 1
  | .lit _ => 1
  | .nil => 1
  | .ptr d => uptoBulk d + 1
  | .slice elems spare => uptoBulkAll elems + uptoBulkAll spare + 1
  | .agg parts => uptoBulkAll parts + 1
  | .iface _ d => uptoBulk d + 1
  | .map entries => uptoBulkEntries entries + 1
  | .held _ => 1
def uptoBulkAll {H : Type} : List (DataW H) → Nat
  | [] => 0
  | d :: r => uptoBulk d + uptoBulkAll r
def uptoBulkEntries {H : Type} : List (Lit × DataW H) → Nat
  | [] => 0
  | x :: r => uptoBulkEntry x + uptoBulkEntries r
def uptoBulkEntry {H : Type} : Lit × DataW H → Nat
  | (.string bytes, d) => bytes.length + uptoBulk d + 1
  | (_, d) => uptoBulk d + 1
 end
def uptoSmall : (H : Type) → List (DataW H) → Bool := fun _ ds => decide (uptoBulkAll ds ≤ 1048576)
def OpenSpec.upto (s : _root_.Go.ChangeSpec) : _root_.Go.OpenSpec := { _root_.Go.OpenSpec.ofChange s with cond := some uptoSmall }

/-- 'quintadenalaw04.RatiosOrders', WHERE WHAT IT READS IS OF BULK AT MOST 1048576: true; the input reads as it did. -/
def ratiosOrdersUptoRow : OpenClaim := { program := "ytkoghdgfllichaadoor", sum := "5501292bbb6a37e960131a18b603cc6f3ac1dde9e1d547b5a336f0ee52c34663", func := "quintadena/quintadenalaw04.RatiosOrders", spec := "ratiosOrders", inPlace := ["math/bits.Add64"], unfollowed := true, recurses := true, named := ["quintadena/ratios.primes"], apart := false, laid := [("quintadena/ratios.primes", laid_quintadena_ratios_primes)], narrowed := true }
def RatiosOrdersUptoSaid : Prop := ratiosOrdersUptoRow.holds Tryd.pinned (OpenSpec.upto ratiosOrdersSpec)

/-- 'quintadenalaw05.TemperCloses', WHERE WHAT IT READS IS OF BULK AT MOST 1048576: true; the input reads as it did. -/
def temperClosesUptoRow : OpenClaim := { program := "ytkoghdgfllichaadoor", sum := "5501292bbb6a37e960131a18b603cc6f3ac1dde9e1d547b5a336f0ee52c34663", func := "quintadena/quintadenalaw05.TemperCloses", spec := "temperCloses", inPlace := ["math/bits.Add64"], unfollowed := true, recurses := true, named := ["quintadena/ratios.primes"], apart := false, laid := [("quintadena/ratios.primes", laid_quintadena_ratios_primes)], narrowed := true }
def TemperClosesUptoSaid : Prop := temperClosesUptoRow.holds Tryd.pinned (OpenSpec.upto temperClosesSpec)

/-- 'quintadenalaw06.PitchOctaves', WHERE WHAT IT READS IS OF BULK AT MOST 1048576: true; the input reads as it did. -/
def pitchOctavesUptoRow : OpenClaim := { program := "ytkoghdgfllichaadoor", sum := "5501292bbb6a37e960131a18b603cc6f3ac1dde9e1d547b5a336f0ee52c34663", func := "quintadena/quintadenalaw06.PitchOctaves", spec := "pitchOctaves", inPlace := ["math/bits.Add64"], unfollowed := true, recurses := true, named := ["quintadena/ratios.primes"], apart := false, laid := [("quintadena/ratios.primes", laid_quintadena_ratios_primes)], narrowed := true }
def PitchOctavesUptoSaid : Prop := pitchOctavesUptoRow.holds Tryd.pinned (OpenSpec.upto pitchOctavesSpec)

/-- 'quintadenalaw06.PitchFits', WHERE WHAT IT READS IS OF BULK AT MOST 1048576: true; the input reads as it did. -/
def pitchFitsUptoRow : OpenClaim := { program := "ytkoghdgfllichaadoor", sum := "5501292bbb6a37e960131a18b603cc6f3ac1dde9e1d547b5a336f0ee52c34663", func := "quintadena/quintadenalaw06.PitchFits", spec := "pitchFits", inPlace := ["math/bits.Add64"], unfollowed := true, recurses := true, named := ["quintadena/ratios.primes"], apart := false, laid := [("quintadena/ratios.primes", laid_quintadena_ratios_primes)], narrowed := true }
def PitchFitsUptoSaid : Prop := pitchFitsUptoRow.holds Tryd.pinned (OpenSpec.upto pitchFitsSpec)

/-- 'quintadenalaw06.PitchNear', WHERE WHAT IT READS IS OF BULK AT MOST 1048576: true; the input reads as it did. -/
def pitchNearUptoRow : OpenClaim := { program := "ytkoghdgfllichaadoor", sum := "5501292bbb6a37e960131a18b603cc6f3ac1dde9e1d547b5a336f0ee52c34663", func := "quintadena/quintadenalaw06.PitchNear", spec := "pitchNear", inPlace := ["math/bits.Add64"], unfollowed := true, recurses := true, named := ["quintadena/ratios.primes"], apart := false, laid := [("quintadena/ratios.primes", laid_quintadena_ratios_primes)], narrowed := true }
def PitchNearUptoSaid : Prop := pitchNearUptoRow.holds Tryd.pinned (OpenSpec.upto pitchNearSpec)

end Rows
end Go.Proofs.YtkoghdgfllichaaDoor
