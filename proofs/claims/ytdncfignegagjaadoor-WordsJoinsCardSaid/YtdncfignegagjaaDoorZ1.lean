import Derived.Test.YtdncfignegagjaaDoorW15
import Derived.Test.YtdncfignegagjaaDoorCards
import Derived.ProofKit
import Derived.Deep.DeepHandedRow
namespace Go.Proofs.YtdncfignegagjaaDoor
open Go.ChangeShapes Go.WideShapes Go.ChangeAt Go.RowKit

theorem own : ownKnob Tryd.prog.godebug = none := by kernel_rfl

/-- The integers of a flat datum. -/
def numsOf : List (DataW Unit) → List Value
  | [] => []
  | .lit (.int k n) :: r => .int k n :: numsOf r
  | .lit (.string s) :: r => .string ⟨s.toArray⟩ :: numsOf r
  | .agg [.lit (.int k n), .lit (.int k' n')] :: r => .int k n :: .int k' n' :: numsOf r
  | _ :: r => numsOf r
def cellsFor : DataW Unit → Array Value
  | .agg l => (numsOf l).toArray
  | _ => #[]
def layAt (h : Array Obj) (g : Nat) (cs : Array Value) : Array Obj :=
  h.modify g fun
    | .cells _ t frozen => .cells cs t frozen
    | o => o
noncomputable def low : Nat := (World.holding Tryd.prog default ⟨#[], #[], []⟩).heap.size
def rangeS : ByteArray := { data := #[118, 97, 108, 117, 101, 32, 111, 117, 116, 32, 111, 102, 32, 114, 97, 110, 103, 101] }
def syntaxS : ByteArray := { data := #[105, 110, 118, 97, 108, 105, 100, 32, 115, 121, 110, 116, 97, 120] }
noncomputable def layAll (h : Array Obj) : Array Obj :=
  let h1 := layAt h 8 (cellsFor Rows.laid_math_bits_deBruijn32tab)
  let h2 := layAt h1 9 (cellsFor Rows.laid_math_bits_deBruijn64tab)
  let h3 := layAt h2 5 (cellsFor Rows.laid_internal_strconv_uint64pow10)
  let h4 := layAt h3 7 (cellsFor Rows.laid_unicode_utf8_acceptRanges)
  let h5 := layAt h4 6 (cellsFor Rows.laid_unicode_utf8_first)
  let h6 := layAt h5 4 (#[.iface 141 (.pointer (some ⟨low, 0, none⟩))])
  let h7 := layAt h6 3 (#[.iface 141 (.pointer (some ⟨low + 1, 0, none⟩))])
  let h8 := layAt h7 0 (cellsFor Rows.laid_quintadena_words_noteNames)
  let h9 := layAt h8 1 (cellsFor Rows.laid_quintadena_words_letterSemitones)
  h9
/-- A world for the witness: each listed variable holds what its initialiser lays; two new blocks hold the texts of the two errors. -/
noncomputable def laidWorld (os : Os) : World :=
  let w0 := World.holding Tryd.prog os ⟨#[.cells #[.string rangeS] 143, .cells #[.string syntaxS] 143], #[], []⟩
  { w0 with heap := layAll w0.heap }
set_option maxRecDepth 100000 in
theorem laid_met (os : Os) (args : Array Value) : laidMet Tryd.prog Rows.wordsKnownRow.laid ((laidWorld os).forCall (fun _ _ => 0) ⟨#[], args, []⟩).memory :=
  laidMet_of_run' 8 (by kernel_rfl) (by kernel_rfl)
end Go.Proofs.YtdncfignegagjaaDoor
