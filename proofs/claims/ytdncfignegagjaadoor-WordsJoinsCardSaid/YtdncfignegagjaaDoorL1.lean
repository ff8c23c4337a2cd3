import Derived.Test.YtdncfignegagjaaDoorL0
import Derived.Lib.IndexMore
import Derived.Lib.IndexBytes
namespace Go.Proofs.YtdncfignegagjaaDoor
open Go.RowKit

/-! The lines of a string. -/
def cutL : List UInt8 → List UInt8 → List (List UInt8)
  | _, [] => []
  | acc, c :: r => if c = 10 then acc :: cutL [] r else cutL (acc ++ [c]) r
def linesW (l : List UInt8) : List (List UInt8) × Int :=
  if 1048576 < l.length then ([], 3) else if l ≠ [] ∧ l.getLast? ≠ some 10 then ([], 6) else if 5000 < (cutL [] l).length then ([], 3) else (cutL [] l, 0)
theorem cutL_count : ∀ (l acc : List UInt8), (cutL acc l).length = Lib.countByte l 10
  | [], acc => rfl
  | c :: r, acc => by
    unfold cutL Lib.countByte
    have h1 := cutL_count r [] 
    have h2 := cutL_count r (acc ++ [c])
    unfold Lib.countByte at h1 h2
    by_cases h : c = 10
    · rw [if_pos h, List.length_cons, h1, h, List.count_cons_self]
    · rw [if_neg h, h2, List.count_cons_of_ne h]
theorem cut10 : ∀ (l acc : List UInt8), (10 : UInt8) ∈ l → ∃ i : Nat, Lib.indexByte l 10 = (i : Int) ∧ i < l.length ∧ cutL acc l = (acc ++ l.take i) :: cutL [] (l.drop (i + 1))
  | [], _, h => by cases h
  | c :: r, acc, h => by
    rw [show cutL acc (c :: r) = if c = 10 then acc :: cutL [] r else cutL (acc ++ [c]) r by rw [cutL]]
    unfold Lib.indexByte
    by_cases hc : c = 10
    · subst hc
      exact ⟨0, by simp, by simp, by simp⟩
    · have hr : (10 : UInt8) ∈ r := by
        rcases List.mem_cons.1 h with e | e
        · exact absurd e.symm hc
        · exact e
      obtain ⟨i, h1, h2, h3⟩ := cut10 r (acc ++ [c]) hr
      refine ⟨i + 1, ?_, by simp; omega, ?_⟩
      · have e1 : (c == 10) = false := beq_false_of_ne hc
        have e2 : ((i : Int) == -1) = false := beq_false_of_ne (by omega)
        rw [e1, h1, e2]; simp
      · rw [if_neg hc, h3]; simp
theorem last_mem {l : List UInt8} (h : l.getLast? = some 10) : (10 : UInt8) ∈ l := List.mem_of_getLast? h
theorem cut_step {l : List UInt8} (h : l.getLast? = some 10) : ∃ a b : List UInt8, Lib.cut l [10] = (a, b, true) ∧ cutL [] l = a :: cutL [] b ∧ (b = [] ∨ b.getLast? = some 10) ∧ b.length < l.length ∧ a.length ≤ l.length := by
  obtain ⟨i, h1, h2, h3⟩ := cut10 l [] (last_mem h)
  refine ⟨l.take i, l.drop (i + 1), ?_, by simpa using h3, ?_, by rw [List.length_drop]; omega, by rw [List.length_take]; omega⟩
  · unfold Lib.cut
    rw [Lib.index_one, h1, if_pos (by omega)]
    simp
  · by_cases hb : l.drop (i + 1) = []
    · exact .inl hb
    · right
      rw [List.getLast?_drop, if_neg (fun e => hb (List.drop_eq_nil_of_le e)), h]
end Go.Proofs.YtdncfignegagjaaDoor
