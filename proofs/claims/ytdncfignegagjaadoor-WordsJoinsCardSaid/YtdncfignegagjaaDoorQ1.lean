import Derived.Test.YtdncfignegagjaaDoorW8
import Derived.Lib.ReplaceLaws
import Derived.Lib.CountLaws
namespace Go.Proofs.YtdncfignegagjaaDoor
open Go.RowKit

/-! Plain lists: doubling and undoubling of quotation marks; what the library's ReplaceAll does. -/
def dbl : List UInt8 → List UInt8
  | [] => []
  | c :: r => if c = 34 then 34 :: 34 :: dbl r else c :: dbl r
def undbl : List UInt8 → List UInt8
  | [] => []
  | [c] => [c]
  | c :: d :: r => if c = 34 ∧ d = 34 then 34 :: undbl r else c :: undbl (d :: r)

def rep (old new s : List UInt8) : List UInt8 := Lib.replaceK old new (Lib.count s old) s
theorem rep_eq {old new s : List UInt8} (h : old ≠ new) : Lib.replaceAll s old new = rep old new s := by
  unfold Lib.replaceAll Lib.replace rep
  rw [if_neg (by simpa using h)]
  simp [Lib.replaceNum]
theorem rep_nil {old new : List UInt8} (h : old ≠ []) : rep old new [] = [] := by
  unfold rep
  rw [Lib.count_miss (by unfold Lib.index; simp [h])]
  rfl
theorem rep_hit {old new r : List UInt8} (h : old ≠ []) : rep old new (old ++ r) = new ++ rep old new r := by
  have hi : Lib.index (old ++ r) old = (0 : Nat) := by
    cases hol : old with
    | nil => exact absurd hol h
    | cons a b =>
      rw [List.cons_append]
      unfold Lib.index
      rw [if_pos]
      · rfl
      · simp [List.isPrefixOf_iff_prefix]
  unfold rep
  rw [Lib.count_hit h hi, Nat.add_comm, Lib.replaceK_hit _ _ _ _ 0 hi]
  simp
theorem rep_miss {old new r : List UInt8} {c : UInt8} (h : old ≠ []) (hp : old.isPrefixOf (c :: r) = false) : rep old new (c :: r) = c :: rep old new r := by
  unfold rep
  by_cases hm : Lib.index r old = -1
  · have hm' : Lib.index (c :: r) old = -1 := by unfold Lib.index; rw [hp]; simp [hm]
    rw [Lib.count_miss hm, Lib.count_miss hm']
    rfl
  · have hge := Lib.index_ge r old
    obtain ⟨i, hi⟩ : ∃ i : Nat, Lib.index r old = i := ⟨(Lib.index r old).toNat, by omega⟩
    have hi' : Lib.index (c :: r) old = ((i + 1 : Nat) : Int) := by
      unfold Lib.index; rw [hp]; simp only [Bool.false_eq_true, if_false]
      rw [if_neg (by simp; omega), hi]; omega
    have e : (c :: r).drop (i + 1 + old.length) = r.drop (i + old.length) := by
      rw [show i + 1 + old.length = (i + old.length) + 1 by omega, List.drop_succ_cons]
    rw [Lib.count_hit h hi, Lib.count_hit h hi', e]
    rw [Nat.add_comm 1, Lib.replaceK_hit _ _ _ _ (i + 1) hi', Lib.replaceK_hit _ _ _ _ i hi, e]
    simp
theorem rep_dbl (l : List UInt8) : rep [34] [34, 34] l = dbl l := by
  induction l with
  | nil => exact rep_nil (by simp)
  | cons c r ih =>
    unfold dbl
    by_cases hc : c = 34
    · subst hc
      have := rep_hit (old := [34]) (new := [34, 34]) (r := r) (by simp)
      rw [if_pos rfl, ← ih]; simpa using this
    · rw [if_neg hc, rep_miss (by simp) (by simp [List.isPrefixOf]; intro e; exact hc e.symm), ih]
theorem rep_undbl : ∀ (n : Nat) (l : List UInt8), l.length ≤ n → rep [34, 34] [34] l = undbl l := by
  intro n
  induction n with
  | zero => intro l hl; have : l = [] := List.eq_nil_of_length_eq_zero (by omega); subst this; exact rep_nil (by simp)
  | succ n ih =>
    intro l hl
    match l with
    | [] => exact rep_nil (by simp)
    | [c] =>
      unfold undbl
      rw [rep_miss (by simp) (by simp [List.isPrefixOf]), rep_nil (by simp)]
    | c :: d :: r =>
      unfold undbl
      by_cases hc : c = 34 ∧ d = 34
      · obtain ⟨rfl, rfl⟩ := hc
        rw [if_pos ⟨rfl, rfl⟩]
        have := rep_hit (old := [34, 34]) (new := [34]) (r := r) (by simp)
        rw [← ih r (by simp at hl; omega)]; simpa using this
      · rw [if_neg hc, rep_miss (by simp) (by
          simp only [List.isPrefixOf]
          rw [Bool.eq_false_iff]; intro e; simp at e; exact hc ⟨e.1.symm, e.2.symm⟩), ih (d :: r) (by simp at hl ⊢; omega)]
theorem replaceAll_dbl (l : List UInt8) : Lib.replaceAll l [34] [34, 34] = dbl l := by rw [rep_eq (by simp), rep_dbl]
theorem replaceAll_undbl (l : List UInt8) : Lib.replaceAll l [34, 34] [34] = undbl l := by rw [rep_eq (by simp), rep_undbl l.length l (Nat.le_refl _)]
theorem dbl_len (l : List UInt8) : (dbl l).length ≤ 2 * l.length := by
  induction l with
  | nil => simp [dbl]
  | cons c r ih => unfold dbl; split <;> simp <;> omega
theorem undbl_len : ∀ (n : Nat) (l : List UInt8), l.length ≤ n → (undbl l).length ≤ l.length := by
  intro n
  induction n with
  | zero => intro l hl; have : l = [] := List.eq_nil_of_length_eq_zero (by omega); subst this; simp [undbl]
  | succ n ih =>
    intro l hl
    match l with
    | [] => simp [undbl]
    | [c] => simp [undbl]
    | c :: d :: r =>
      unfold undbl
      split
      · have := ih r (by simp at hl; omega); simp; omega
      · have := ih (d :: r) (by simp at hl ⊢; omega); simp at this ⊢; omega

def quoted (l : List UInt8) : List UInt8 := 34 :: (dbl l ++ [34])
def quoteW (l : List UInt8) : List UInt8 × Int := if textB l then (quoted l, 0) else ([], 2)
def inner (l : List UInt8) : List UInt8 := undbl ((l.drop 1).take (l.length - 2))
def unquoteW (l : List UInt8) : List UInt8 × Int :=
  if l.length < 2 then ([], 6) else if textB (inner l) = true ∧ quoted (inner l) = l then (inner l, 0) else ([], 6)
theorem textB_len {l : List UInt8} (h : textB l = true) : l.length ≤ 200 := by
  unfold textB at h; simp at h; exact h.1

theorem repl_dbl (s : ByteArray) (w : World) (hT : Tabs w) (hs : s.size ≤ 1000000) :
    Calls Tryd.prog 57 #[.string s, .string ⟨#[34]⟩, .string ⟨#[34, 34]⟩] w fun e w' => e = .returned (.string ⟨(dbl s.data.toList).toArray⟩) ∧ Below w.heap.size w w' := by
  obtain ⟨m, hm⟩ := hT.maxl
  have hc : Lib.countB s ⟨#[34]⟩ ≤ s.size + 1 := by have := Lib.count_le s.data.toList [34]; rw [len_eq] at this; exact this
  have := Tryd.strings_ReplaceAll s ⟨#[34]⟩ ⟨#[34, 34]⟩ m w (by omega) hm (by decide) (by
    have e : (⟨#[34, 34]⟩ : ByteArray).size = 2 := rfl
    rw [e]; omega)
  simp only at this
  rw [replaceAll_dbl] at this
  exact this
theorem repl_undbl (s : ByteArray) (w : World) (hT : Tabs w) (hs : s.size ≤ 1000000) :
    Calls Tryd.prog 57 #[.string s, .string ⟨#[34, 34]⟩, .string ⟨#[34]⟩] w fun e w' => e = .returned (.string ⟨(undbl s.data.toList).toArray⟩) ∧ Below w.heap.size w w' := by
  obtain ⟨m, hm⟩ := hT.maxl
  have hc : Lib.countB s ⟨#[34, 34]⟩ ≤ s.size + 1 := by have := Lib.count_le s.data.toList [34, 34]; rw [len_eq] at this; exact this
  have := Tryd.strings_ReplaceAll s ⟨#[34, 34]⟩ ⟨#[34]⟩ m w (by omega) hm (by decide) (by
    have e : (⟨#[34]⟩ : ByteArray).size = 1 := rfl
    rw [e]; omega)
  simp only at this
  rw [replaceAll_undbl] at this
  exact this
end Go.Proofs.YtdncfignegagjaaDoor
