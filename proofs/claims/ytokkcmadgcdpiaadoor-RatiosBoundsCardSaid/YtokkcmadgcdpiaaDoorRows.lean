/-
  NARROWER THAN 'FOR EVERY INPUT', by the rows' own cells (each row's printed sentence says how): RatiosSigns: laid · RatiosFloors: laid · RatiosOf: laid · RatiosMuls: laid · RatiosOrders: laid · RatiosExact: laid · RatiosBounds: laid · RatiosCents: laid · RatiosKnown: laid.
  DERIVED. THE GIVEN ROWS OF THIS SEAT. 9 by the template 'for every input the law returns true; each argument reads behind the call as it read before'; 0 by the template 'total and deterministic' (their statements: YtokkcmadgcdpiaaDoorTotals.lean).
  GIVEN WITH THE SEED: the statements are not yours to turn. If you find one false, say at which input.
  Laid BY PROGRAM, IN A SANDBOX (cutbox-rows.mjs): the forced cells as the released guide's own fill.sh prints them over the translation 51e90a230e9741b2… (all of the seat's roots in one cut). By AI agents, Wed Nov 11 2026. No macro, syntax, notation, axiom, sorry.
-/
import Derived.Test.YtokkcmadgcdpiaaDoorChecked
import GoSem.PinnedTables
import GoSem.Claim
import GoSem.ClaimJoined
import GoSem.ClaimMapViews
import Derived.JoinedTies
import Derived.KernelRfl
namespace Go.Proofs.YtokkcmadgcdpiaaDoor
/- THE CELL 'sum', in the pinned program and in every row, IS THE sha256 OF THE DUMP (.gsa) THAT YtokkcmadgcdpiaaDoorProg.lean LOADS. Nothing in Lean hashes anything: it is a label: what it is worth is what the hold of that sum in a sandbox is worth. -/
noncomputable def Tryd.pinned : Pinned := { name := "ytokkcmadgcdpiaadoor", sum := "51e90a230e9741b25c95c0c439f98fd527494afc2991060b4fad073fb4756059", checked := Tryd.checked }
namespace Rows
def none {H : Type} : Left H := { results := [], args := [] }

/- WHAT THE LISTED PACKAGE-LEVEL VARIABLES READ AS WHEN THE CALL BEGINS. Each datum BY PROGRAM (the guide's laid-datum.mjs) off the statement by which the dump's own 'gosem.cut.vars' lays the variable. In a bare row this is a premise. The card (YtokkcmadgcdpiaaDoorCards.lean) ties it to the program's text. -/
def laid_quintadena_ratios_primes {H : Type} : DataW H := .agg [.lit (.int .i64 2), .lit (.int .i64 3), .lit (.int .i64 5), .lit (.int .i64 7), .lit (.int .i64 11), .lit (.int .i64 13)]
def laid_math_bits_deBruijn32tab {H : Type} : DataW H := .agg [.lit (.int .u8 0), .lit (.int .u8 1), .lit (.int .u8 28), .lit (.int .u8 2), .lit (.int .u8 29), .lit (.int .u8 14), .lit (.int .u8 24), .lit (.int .u8 3), .lit (.int .u8 30), .lit (.int .u8 22), .lit (.int .u8 20), .lit (.int .u8 15), .lit (.int .u8 25), .lit (.int .u8 17), .lit (.int .u8 4), .lit (.int .u8 8), .lit (.int .u8 31), .lit (.int .u8 27), .lit (.int .u8 13), .lit (.int .u8 23), .lit (.int .u8 21), .lit (.int .u8 19), .lit (.int .u8 16), .lit (.int .u8 7), .lit (.int .u8 26), .lit (.int .u8 12), .lit (.int .u8 18), .lit (.int .u8 6), .lit (.int .u8 11), .lit (.int .u8 5), .lit (.int .u8 10), .lit (.int .u8 9)]
def laid_math_bits_deBruijn64tab {H : Type} : DataW H := .agg [.lit (.int .u8 0), .lit (.int .u8 1), .lit (.int .u8 56), .lit (.int .u8 2), .lit (.int .u8 57), .lit (.int .u8 49), .lit (.int .u8 28), .lit (.int .u8 3), .lit (.int .u8 61), .lit (.int .u8 58), .lit (.int .u8 42), .lit (.int .u8 50), .lit (.int .u8 38), .lit (.int .u8 29), .lit (.int .u8 17), .lit (.int .u8 4), .lit (.int .u8 62), .lit (.int .u8 47), .lit (.int .u8 59), .lit (.int .u8 36), .lit (.int .u8 45), .lit (.int .u8 43), .lit (.int .u8 51), .lit (.int .u8 22), .lit (.int .u8 53), .lit (.int .u8 39), .lit (.int .u8 33), .lit (.int .u8 30), .lit (.int .u8 24), .lit (.int .u8 18), .lit (.int .u8 12), .lit (.int .u8 5), .lit (.int .u8 63), .lit (.int .u8 55), .lit (.int .u8 48), .lit (.int .u8 27), .lit (.int .u8 60), .lit (.int .u8 41), .lit (.int .u8 37), .lit (.int .u8 16), .lit (.int .u8 46), .lit (.int .u8 35), .lit (.int .u8 44), .lit (.int .u8 21), .lit (.int .u8 52), .lit (.int .u8 32), .lit (.int .u8 23), .lit (.int .u8 11), .lit (.int .u8 54), .lit (.int .u8 26), .lit (.int .u8 40), .lit (.int .u8 15), .lit (.int .u8 34), .lit (.int .u8 20), .lit (.int .u8 31), .lit (.int .u8 10), .lit (.int .u8 25), .lit (.int .u8 14), .lit (.int .u8 19), .lit (.int .u8 9), .lit (.int .u8 13), .lit (.int .u8 8), .lit (.int .u8 7), .lit (.int .u8 6)]
def laid_internal_strconv_uint64pow10 {H : Type} : DataW H := .agg [.lit (.int .u64 1), .lit (.int .u64 10), .lit (.int .u64 100), .lit (.int .u64 1000), .lit (.int .u64 10000), .lit (.int .u64 100000), .lit (.int .u64 1000000), .lit (.int .u64 10000000), .lit (.int .u64 100000000), .lit (.int .u64 1000000000), .lit (.int .u64 10000000000), .lit (.int .u64 100000000000), .lit (.int .u64 1000000000000), .lit (.int .u64 10000000000000), .lit (.int .u64 100000000000000), .lit (.int .u64 1000000000000000), .lit (.int .u64 10000000000000000), .lit (.int .u64 100000000000000000), .lit (.int .u64 1000000000000000000), .lit (.int .u64 10000000000000000000)]
def laid_unicode_utf8_acceptRanges {H : Type} : DataW H := .agg [.agg [.lit (.int .u8 128), .lit (.int .u8 191)], .agg [.lit (.int .u8 160), .lit (.int .u8 191)], .agg [.lit (.int .u8 128), .lit (.int .u8 159)], .agg [.lit (.int .u8 144), .lit (.int .u8 191)], .agg [.lit (.int .u8 128), .lit (.int .u8 143)], .agg [.lit (.int .u8 0), .lit (.int .u8 0)], .agg [.lit (.int .u8 0), .lit (.int .u8 0)], .agg [.lit (.int .u8 0), .lit (.int .u8 0)], .agg [.lit (.int .u8 0), .lit (.int .u8 0)], .agg [.lit (.int .u8 0), .lit (.int .u8 0)], .agg [.lit (.int .u8 0), .lit (.int .u8 0)], .agg [.lit (.int .u8 0), .lit (.int .u8 0)], .agg [.lit (.int .u8 0), .lit (.int .u8 0)], .agg [.lit (.int .u8 0), .lit (.int .u8 0)], .agg [.lit (.int .u8 0), .lit (.int .u8 0)], .agg [.lit (.int .u8 0), .lit (.int .u8 0)]]
def laid_strconv_ErrRange {H : Type} : DataW H := .iface "*errors.errorString" (.ptr (.agg [.lit (.string [118, 97, 108, 117, 101, 32, 111, 117, 116, 32, 111, 102, 32, 114, 97, 110, 103, 101])]))
def laid_strconv_ErrSyntax {H : Type} : DataW H := .iface "*errors.errorString" (.ptr (.agg [.lit (.string [105, 110, 118, 97, 108, 105, 100, 32, 115, 121, 110, 116, 97, 120])]))
/-- One of Go's own tables, pinned by name: the form's constant. -/
def laid_unicode_utf8_first : DataW Unit := Go.Pinned.utf8First

/-- 'quintadenalaw04.RatiosSigns': WHATEVER THE INPUT: true; the input reads as it did. -/
def ratiosSignsSpec : ChangeSpec := { name := "ratiosSigns", fn := fun _ => fun
  | [d] => { results := [.lit (.bool true)], args := [d] }
  | _ => none }
def ratiosSignsRow : OpenClaim := { program := "ytokkcmadgcdpiaadoor", sum := "51e90a230e9741b25c95c0c439f98fd527494afc2991060b4fad073fb4756059", func := "quintadena/quintadenalaw04.RatiosSigns", spec := "ratiosSigns", inPlace := ["math/bits.Add64"], unfollowed := true, recurses := true, named := ["quintadena/ratios.primes"], apart := false, laid := [("quintadena/ratios.primes", laid_quintadena_ratios_primes)] }
def RatiosSignsSaid : Prop := ratiosSignsRow.holds Tryd.pinned (OpenSpec.ofChange ratiosSignsSpec)

/-- ITS FALSE NEIGHBOUR: 'it returns false'. Refute it at one input. -/
def ratiosSignsWrong : ChangeSpec := { name := "ratiosSigns", fn := fun _ => fun
  | [d] => { results := [.lit (.bool false)], args := [d] }
  | _ => none }
def RatiosSignsWrongFalsely : Prop := ratiosSignsRow.holds Tryd.pinned (OpenSpec.ofChange ratiosSignsWrong)

/-- 'quintadenalaw04.RatiosFloors': WHATEVER THE INPUT: true; the input reads as it did. -/
def ratiosFloorsSpec : ChangeSpec := { name := "ratiosFloors", fn := fun _ => fun
  | [d1, d2, d3] => { results := [.lit (.bool true)], args := [d1, d2, d3] }
  | _ => none }
def ratiosFloorsRow : OpenClaim := { program := "ytokkcmadgcdpiaadoor", sum := "51e90a230e9741b25c95c0c439f98fd527494afc2991060b4fad073fb4756059", func := "quintadena/quintadenalaw04.RatiosFloors", spec := "ratiosFloors", inPlace := ["math/bits.Add64"], unfollowed := true, recurses := true, named := ["quintadena/ratios.primes"], apart := false, laid := [("quintadena/ratios.primes", laid_quintadena_ratios_primes)] }
def RatiosFloorsSaid : Prop := ratiosFloorsRow.holds Tryd.pinned (OpenSpec.ofChange ratiosFloorsSpec)

/-- ITS FALSE NEIGHBOUR: 'it returns false'. Refute it at one input. -/
def ratiosFloorsWrong : ChangeSpec := { name := "ratiosFloors", fn := fun _ => fun
  | [d1, d2, d3] => { results := [.lit (.bool false)], args := [d1, d2, d3] }
  | _ => none }
def RatiosFloorsWrongFalsely : Prop := ratiosFloorsRow.holds Tryd.pinned (OpenSpec.ofChange ratiosFloorsWrong)

/-- 'quintadenalaw04.RatiosOf': WHATEVER THE INPUT: true; the input reads as it did. -/
def ratiosOfSpec : ChangeSpec := { name := "ratiosOf", fn := fun _ => fun
  | [d1, d2, d3] => { results := [.lit (.bool true)], args := [d1, d2, d3] }
  | _ => none }
def ratiosOfRow : OpenClaim := { program := "ytokkcmadgcdpiaadoor", sum := "51e90a230e9741b25c95c0c439f98fd527494afc2991060b4fad073fb4756059", func := "quintadena/quintadenalaw04.RatiosOf", spec := "ratiosOf", inPlace := ["math/bits.Add64"], unfollowed := true, recurses := true, named := ["quintadena/ratios.primes"], apart := false, laid := [("quintadena/ratios.primes", laid_quintadena_ratios_primes)] }
def RatiosOfSaid : Prop := ratiosOfRow.holds Tryd.pinned (OpenSpec.ofChange ratiosOfSpec)

/-- ITS FALSE NEIGHBOUR: 'it returns false'. Refute it at one input. -/
def ratiosOfWrong : ChangeSpec := { name := "ratiosOf", fn := fun _ => fun
  | [d1, d2, d3] => { results := [.lit (.bool false)], args := [d1, d2, d3] }
  | _ => none }
def RatiosOfWrongFalsely : Prop := ratiosOfRow.holds Tryd.pinned (OpenSpec.ofChange ratiosOfWrong)

/-- 'quintadenalaw04.RatiosMuls': WHATEVER THE INPUT: true; the input reads as it did. -/
def ratiosMulsSpec : ChangeSpec := { name := "ratiosMuls", fn := fun _ => fun
  | [d1, d2, d3] => { results := [.lit (.bool true)], args := [d1, d2, d3] }
  | _ => none }
def ratiosMulsRow : OpenClaim := { program := "ytokkcmadgcdpiaadoor", sum := "51e90a230e9741b25c95c0c439f98fd527494afc2991060b4fad073fb4756059", func := "quintadena/quintadenalaw04.RatiosMuls", spec := "ratiosMuls", inPlace := ["math/bits.Add64"], unfollowed := true, recurses := true, named := ["quintadena/ratios.primes"], apart := false, laid := [("quintadena/ratios.primes", laid_quintadena_ratios_primes)] }
def RatiosMulsSaid : Prop := ratiosMulsRow.holds Tryd.pinned (OpenSpec.ofChange ratiosMulsSpec)

/-- ITS FALSE NEIGHBOUR: 'it returns false'. Refute it at one input. -/
def ratiosMulsWrong : ChangeSpec := { name := "ratiosMuls", fn := fun _ => fun
  | [d1, d2, d3] => { results := [.lit (.bool false)], args := [d1, d2, d3] }
  | _ => none }
def RatiosMulsWrongFalsely : Prop := ratiosMulsRow.holds Tryd.pinned (OpenSpec.ofChange ratiosMulsWrong)

/-- 'quintadenalaw04.RatiosOrders': WHATEVER THE INPUT: true; the input reads as it did. -/
def ratiosOrdersSpec : ChangeSpec := { name := "ratiosOrders", fn := fun _ => fun
  | [d1, d2] => { results := [.lit (.bool true)], args := [d1, d2] }
  | _ => none }
def ratiosOrdersRow : OpenClaim := { program := "ytokkcmadgcdpiaadoor", sum := "51e90a230e9741b25c95c0c439f98fd527494afc2991060b4fad073fb4756059", func := "quintadena/quintadenalaw04.RatiosOrders", spec := "ratiosOrders", inPlace := ["math/bits.Add64"], unfollowed := true, recurses := true, named := ["quintadena/ratios.primes"], apart := false, laid := [("quintadena/ratios.primes", laid_quintadena_ratios_primes)] }
def RatiosOrdersSaid : Prop := ratiosOrdersRow.holds Tryd.pinned (OpenSpec.ofChange ratiosOrdersSpec)

/-- ITS FALSE NEIGHBOUR: 'it returns false'. Refute it at one input. -/
def ratiosOrdersWrong : ChangeSpec := { name := "ratiosOrders", fn := fun _ => fun
  | [d1, d2] => { results := [.lit (.bool false)], args := [d1, d2] }
  | _ => none }
def RatiosOrdersWrongFalsely : Prop := ratiosOrdersRow.holds Tryd.pinned (OpenSpec.ofChange ratiosOrdersWrong)

/-- 'quintadenalaw04.RatiosExact': WHATEVER THE INPUT: true; the input reads as it did. -/
def ratiosExactSpec : ChangeSpec := { name := "ratiosExact", fn := fun _ => fun
  | [d] => { results := [.lit (.bool true)], args := [d] }
  | _ => none }
def ratiosExactRow : OpenClaim := { program := "ytokkcmadgcdpiaadoor", sum := "51e90a230e9741b25c95c0c439f98fd527494afc2991060b4fad073fb4756059", func := "quintadena/quintadenalaw04.RatiosExact", spec := "ratiosExact", inPlace := ["math/bits.Add64"], unfollowed := true, recurses := true, named := ["quintadena/ratios.primes"], apart := false, laid := [("quintadena/ratios.primes", laid_quintadena_ratios_primes)] }
def RatiosExactSaid : Prop := ratiosExactRow.holds Tryd.pinned (OpenSpec.ofChange ratiosExactSpec)

/-- ITS FALSE NEIGHBOUR: 'it returns false'. Refute it at one input. -/
def ratiosExactWrong : ChangeSpec := { name := "ratiosExact", fn := fun _ => fun
  | [d] => { results := [.lit (.bool false)], args := [d] }
  | _ => none }
def RatiosExactWrongFalsely : Prop := ratiosExactRow.holds Tryd.pinned (OpenSpec.ofChange ratiosExactWrong)

/-- 'quintadenalaw04.RatiosBounds': WHATEVER THE INPUT: true; the input reads as it did. -/
def ratiosBoundsSpec : ChangeSpec := { name := "ratiosBounds", fn := fun _ => fun
  | [d1, d2, d3] => { results := [.lit (.bool true)], args := [d1, d2, d3] }
  | _ => none }
def ratiosBoundsRow : OpenClaim := { program := "ytokkcmadgcdpiaadoor", sum := "51e90a230e9741b25c95c0c439f98fd527494afc2991060b4fad073fb4756059", func := "quintadena/quintadenalaw04.RatiosBounds", spec := "ratiosBounds", inPlace := ["math/bits.Add64"], unfollowed := true, recurses := true, named := ["quintadena/ratios.primes"], apart := false, laid := [("quintadena/ratios.primes", laid_quintadena_ratios_primes)] }
def RatiosBoundsSaid : Prop := ratiosBoundsRow.holds Tryd.pinned (OpenSpec.ofChange ratiosBoundsSpec)

/-- ITS FALSE NEIGHBOUR: 'it returns false'. Refute it at one input. -/
def ratiosBoundsWrong : ChangeSpec := { name := "ratiosBounds", fn := fun _ => fun
  | [d1, d2, d3] => { results := [.lit (.bool false)], args := [d1, d2, d3] }
  | _ => none }
def RatiosBoundsWrongFalsely : Prop := ratiosBoundsRow.holds Tryd.pinned (OpenSpec.ofChange ratiosBoundsWrong)

/-- 'quintadenalaw04.RatiosCents': WHATEVER THE INPUT: true; the input reads as it did. -/
def ratiosCentsSpec : ChangeSpec := { name := "ratiosCents", fn := fun _ => fun
  | [d1, d2] => { results := [.lit (.bool true)], args := [d1, d2] }
  | _ => none }
def ratiosCentsRow : OpenClaim := { program := "ytokkcmadgcdpiaadoor", sum := "51e90a230e9741b25c95c0c439f98fd527494afc2991060b4fad073fb4756059", func := "quintadena/quintadenalaw04.RatiosCents", spec := "ratiosCents", inPlace := ["math/bits.Add64"], unfollowed := true, recurses := true, named := ["quintadena/ratios.primes"], apart := false, laid := [("quintadena/ratios.primes", laid_quintadena_ratios_primes)] }
def RatiosCentsSaid : Prop := ratiosCentsRow.holds Tryd.pinned (OpenSpec.ofChange ratiosCentsSpec)

/-- ITS FALSE NEIGHBOUR: 'it returns false'. Refute it at one input. -/
def ratiosCentsWrong : ChangeSpec := { name := "ratiosCents", fn := fun _ => fun
  | [d1, d2] => { results := [.lit (.bool false)], args := [d1, d2] }
  | _ => none }
def RatiosCentsWrongFalsely : Prop := ratiosCentsRow.holds Tryd.pinned (OpenSpec.ofChange ratiosCentsWrong)

/-- 'quintadenalaw04.RatiosKnown': WHATEVER THE INPUT: true; the input reads as it did. -/
def ratiosKnownSpec : ChangeSpec := { name := "ratiosKnown", fn := fun _ => fun
  | [] => { results := [.lit (.bool true)], args := [] }
  | _ => none }
def ratiosKnownRow : OpenClaim := { program := "ytokkcmadgcdpiaadoor", sum := "51e90a230e9741b25c95c0c439f98fd527494afc2991060b4fad073fb4756059", func := "quintadena/quintadenalaw04.RatiosKnown", spec := "ratiosKnown", inPlace := ["math/bits.Add64", "internal/abi.NoEscape", "internal/bytealg.MakeNoZero", "internal/bytealg.CountString", "internal/bytealg.IndexByteString", "internal/bytealg.IndexString"], unfollowed := true, recurses := true, named := ["quintadena/ratios.primes", "internal/strconv.uint64pow10", "math/bits.deBruijn32tab", "math/bits.deBruijn64tab", "unicode/utf8.first", "unicode/utf8.acceptRanges", "internal/bytealg.MaxLen", "strconv.ErrSyntax", "strconv.ErrRange"], apart := false, laid := [("math/bits.deBruijn32tab", laid_math_bits_deBruijn32tab), ("math/bits.deBruijn64tab", laid_math_bits_deBruijn64tab), ("internal/strconv.uint64pow10", laid_internal_strconv_uint64pow10), ("unicode/utf8.acceptRanges", laid_unicode_utf8_acceptRanges), ("strconv.ErrRange", laid_strconv_ErrRange), ("strconv.ErrSyntax", laid_strconv_ErrSyntax), ("quintadena/ratios.primes", laid_quintadena_ratios_primes), ("unicode/utf8.first", laid_unicode_utf8_first)] }
def RatiosKnownSaid : Prop := ratiosKnownRow.holds Tryd.pinned (OpenSpec.ofChange ratiosKnownSpec)

/-- ITS FALSE NEIGHBOUR: 'it returns false'. Refute it at one input. -/
def ratiosKnownWrong : ChangeSpec := { name := "ratiosKnown", fn := fun _ => fun
  | [] => { results := [.lit (.bool false)], args := [] }
  | _ => none }
def RatiosKnownWrongFalsely : Prop := ratiosKnownRow.holds Tryd.pinned (OpenSpec.ofChange ratiosKnownWrong)

/- THE SECOND FORM. 'bulk': how many values and letters a reading holds, each counted each time it is reached (what is shared counts as often as it is met; a slice's spare places count too). A statement '..UptoSaid' is the law's where the arguments, and the package variables that the reading takes, are together of bulk at most 1048576: NARROWER than '..Said'. Prove '..Said' where nothing that the law and all that it calls make is longer than what came in: it says more and counts as full. Else prove '..UptoSaid'. A law counts once. -/
mutual
def uptoBulk {H : Type} : DataW H → Nat
  | .lit (.string bytes) => bytes.length + 1
  | .lit _ => 1
  | .nil => 1
  | .ptr d => uptoBulk d + 1
  | .slice elems spare => uptoBulkAll elems + uptoBulkAll spare + 1
  | .agg parts => uptoBulkAll parts + 1
  | .iface _ d => uptoBulk d + 1
  | .map entries => uptoBulkEntries entries + 1
  | .held _ => 1
def uptoBulkAll {H : Type} : List (DataW H) → Nat
  | [] => 0
  | d :: r => uptoBulk d + uptoBulkAll r
def uptoBulkEntries {H : Type} : List (Lit × DataW H) → Nat
  | [] => 0
  | x :: r => uptoBulkEntry x + uptoBulkEntries r
def uptoBulkEntry {H : Type} : Lit × DataW H → Nat
  | (.string bytes, d) => bytes.length + uptoBulk d + 1
  | (_, d) => uptoBulk d + 1
 end
def uptoSmall : (H : Type) → List (DataW H) → Bool := fun _ ds => decide (uptoBulkAll ds ≤ 1048576)
def OpenSpec.upto (s : _root_.Go.ChangeSpec) : _root_.Go.OpenSpec := { _root_.Go.OpenSpec.ofChange s with cond := some uptoSmall }

/-- 'quintadenalaw04.RatiosSigns', WHERE WHAT IT READS IS OF BULK AT MOST 1048576: true; the input reads as it did. -/
def ratiosSignsUptoRow : OpenClaim := { program := "ytokkcmadgcdpiaadoor", sum := "51e90a230e9741b25c95c0c439f98fd527494afc2991060b4fad073fb4756059", func := "quintadena/quintadenalaw04.RatiosSigns", spec := "ratiosSigns", inPlace := ["math/bits.Add64"], unfollowed := true, recurses := true, named := ["quintadena/ratios.primes"], apart := false, laid := [("quintadena/ratios.primes", laid_quintadena_ratios_primes)], narrowed := true }
def RatiosSignsUptoSaid : Prop := ratiosSignsUptoRow.holds Tryd.pinned (OpenSpec.upto ratiosSignsSpec)

/-- 'quintadenalaw04.RatiosFloors', WHERE WHAT IT READS IS OF BULK AT MOST 1048576: true; the input reads as it did. -/
def ratiosFloorsUptoRow : OpenClaim := { program := "ytokkcmadgcdpiaadoor", sum := "51e90a230e9741b25c95c0c439f98fd527494afc2991060b4fad073fb4756059", func := "quintadena/quintadenalaw04.RatiosFloors", spec := "ratiosFloors", inPlace := ["math/bits.Add64"], unfollowed := true, recurses := true, named := ["quintadena/ratios.primes"], apart := false, laid := [("quintadena/ratios.primes", laid_quintadena_ratios_primes)], narrowed := true }
def RatiosFloorsUptoSaid : Prop := ratiosFloorsUptoRow.holds Tryd.pinned (OpenSpec.upto ratiosFloorsSpec)

/-- 'quintadenalaw04.RatiosOf', WHERE WHAT IT READS IS OF BULK AT MOST 1048576: true; the input reads as it did. -/
def ratiosOfUptoRow : OpenClaim := { program := "ytokkcmadgcdpiaadoor", sum := "51e90a230e9741b25c95c0c439f98fd527494afc2991060b4fad073fb4756059", func := "quintadena/quintadenalaw04.RatiosOf", spec := "ratiosOf", inPlace := ["math/bits.Add64"], unfollowed := true, recurses := true, named := ["quintadena/ratios.primes"], apart := false, laid := [("quintadena/ratios.primes", laid_quintadena_ratios_primes)], narrowed := true }
def RatiosOfUptoSaid : Prop := ratiosOfUptoRow.holds Tryd.pinned (OpenSpec.upto ratiosOfSpec)

/-- 'quintadenalaw04.RatiosMuls', WHERE WHAT IT READS IS OF BULK AT MOST 1048576: true; the input reads as it did. -/
def ratiosMulsUptoRow : OpenClaim := { program := "ytokkcmadgcdpiaadoor", sum := "51e90a230e9741b25c95c0c439f98fd527494afc2991060b4fad073fb4756059", func := "quintadena/quintadenalaw04.RatiosMuls", spec := "ratiosMuls", inPlace := ["math/bits.Add64"], unfollowed := true, recurses := true, named := ["quintadena/ratios.primes"], apart := false, laid := [("quintadena/ratios.primes", laid_quintadena_ratios_primes)], narrowed := true }
def RatiosMulsUptoSaid : Prop := ratiosMulsUptoRow.holds Tryd.pinned (OpenSpec.upto ratiosMulsSpec)

/-- 'quintadenalaw04.RatiosOrders', WHERE WHAT IT READS IS OF BULK AT MOST 1048576: true; the input reads as it did. -/
def ratiosOrdersUptoRow : OpenClaim := { program := "ytokkcmadgcdpiaadoor", sum := "51e90a230e9741b25c95c0c439f98fd527494afc2991060b4fad073fb4756059", func := "quintadena/quintadenalaw04.RatiosOrders", spec := "ratiosOrders", inPlace := ["math/bits.Add64"], unfollowed := true, recurses := true, named := ["quintadena/ratios.primes"], apart := false, laid := [("quintadena/ratios.primes", laid_quintadena_ratios_primes)], narrowed := true }
def RatiosOrdersUptoSaid : Prop := ratiosOrdersUptoRow.holds Tryd.pinned (OpenSpec.upto ratiosOrdersSpec)

/-- 'quintadenalaw04.RatiosExact', WHERE WHAT IT READS IS OF BULK AT MOST 1048576: true; the input reads as it did. -/
def ratiosExactUptoRow : OpenClaim := { program := "ytokkcmadgcdpiaadoor", sum := "51e90a230e9741b25c95c0c439f98fd527494afc2991060b4fad073fb4756059", func := "quintadena/quintadenalaw04.RatiosExact", spec := "ratiosExact", inPlace := ["math/bits.Add64"], unfollowed := true, recurses := true, named := ["quintadena/ratios.primes"], apart := false, laid := [("quintadena/ratios.primes", laid_quintadena_ratios_primes)], narrowed := true }
def RatiosExactUptoSaid : Prop := ratiosExactUptoRow.holds Tryd.pinned (OpenSpec.upto ratiosExactSpec)

/-- 'quintadenalaw04.RatiosBounds', WHERE WHAT IT READS IS OF BULK AT MOST 1048576: true; the input reads as it did. -/
def ratiosBoundsUptoRow : OpenClaim := { program := "ytokkcmadgcdpiaadoor", sum := "51e90a230e9741b25c95c0c439f98fd527494afc2991060b4fad073fb4756059", func := "quintadena/quintadenalaw04.RatiosBounds", spec := "ratiosBounds", inPlace := ["math/bits.Add64"], unfollowed := true, recurses := true, named := ["quintadena/ratios.primes"], apart := false, laid := [("quintadena/ratios.primes", laid_quintadena_ratios_primes)], narrowed := true }
def RatiosBoundsUptoSaid : Prop := ratiosBoundsUptoRow.holds Tryd.pinned (OpenSpec.upto ratiosBoundsSpec)

/-- 'quintadenalaw04.RatiosCents', WHERE WHAT IT READS IS OF BULK AT MOST 1048576: true; the input reads as it did. -/
def ratiosCentsUptoRow : OpenClaim := { program := "ytokkcmadgcdpiaadoor", sum := "51e90a230e9741b25c95c0c439f98fd527494afc2991060b4fad073fb4756059", func := "quintadena/quintadenalaw04.RatiosCents", spec := "ratiosCents", inPlace := ["math/bits.Add64"], unfollowed := true, recurses := true, named := ["quintadena/ratios.primes"], apart := false, laid := [("quintadena/ratios.primes", laid_quintadena_ratios_primes)], narrowed := true }
def RatiosCentsUptoSaid : Prop := ratiosCentsUptoRow.holds Tryd.pinned (OpenSpec.upto ratiosCentsSpec)

/-- 'quintadenalaw04.RatiosKnown', WHERE WHAT IT READS IS OF BULK AT MOST 1048576: true; the input reads as it did. -/
def ratiosKnownUptoRow : OpenClaim := { program := "ytokkcmadgcdpiaadoor", sum := "51e90a230e9741b25c95c0c439f98fd527494afc2991060b4fad073fb4756059", func := "quintadena/quintadenalaw04.RatiosKnown", spec := "ratiosKnown", inPlace := ["math/bits.Add64", "internal/abi.NoEscape", "internal/bytealg.MakeNoZero", "internal/bytealg.CountString", "internal/bytealg.IndexByteString", "internal/bytealg.IndexString"], unfollowed := true, recurses := true, named := ["quintadena/ratios.primes", "internal/strconv.uint64pow10", "math/bits.deBruijn32tab", "math/bits.deBruijn64tab", "unicode/utf8.first", "unicode/utf8.acceptRanges", "internal/bytealg.MaxLen", "strconv.ErrSyntax", "strconv.ErrRange"], apart := false, laid := [("math/bits.deBruijn32tab", laid_math_bits_deBruijn32tab), ("math/bits.deBruijn64tab", laid_math_bits_deBruijn64tab), ("internal/strconv.uint64pow10", laid_internal_strconv_uint64pow10), ("unicode/utf8.acceptRanges", laid_unicode_utf8_acceptRanges), ("strconv.ErrRange", laid_strconv_ErrRange), ("strconv.ErrSyntax", laid_strconv_ErrSyntax), ("quintadena/ratios.primes", laid_quintadena_ratios_primes), ("unicode/utf8.first", laid_unicode_utf8_first)], narrowed := true }
def RatiosKnownUptoSaid : Prop := ratiosKnownUptoRow.holds Tryd.pinned (OpenSpec.upto ratiosKnownSpec)

end Rows
end Go.Proofs.YtokkcmadgcdpiaaDoor
