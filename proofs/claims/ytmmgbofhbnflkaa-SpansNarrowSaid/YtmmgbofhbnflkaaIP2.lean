import Derived.Test.YtmmgbofhbnflkaaIP1
namespace Go.Proofs.Ytmmgbofhbnflkaa

/-! Quotients, rounded down and up. -/
theorem floor_of_trunc {x y : Int} (hy : 0 < y) : (if x.tmod y < 0 then x.tdiv y - 1 else x.tdiv y) = x / y := by
  rcases Int.le_total 0 x with hx | hx
  · rw [Int.tdiv_eq_ediv_of_nonneg hx, Int.tmod_eq_emod_of_nonneg hx, if_neg]
    have := Int.emod_nonneg x (Int.ne_of_gt hy)
    omega
  · have h := Int.tmod_add_mul_tdiv x y
    have h1 : x.tmod y ≤ 0 := by
      have := Int.tmod_nonneg y (show 0 ≤ -x by omega)
      rw [Int.neg_tmod] at this; omega
    have h2 : -y < x.tmod y := by
      have := Int.tmod_lt_of_pos (-x) hy
      rw [Int.neg_tmod] at this; omega
    generalize x.tmod y = r at *
    generalize x.tdiv y = q at *
    have key : ∀ q' r' : Int, r' + y * q' = x ∧ 0 ≤ r' ∧ r' < y → q' = x / y := fun q' r' hh => ((Int.ediv_emod_unique hy).2 hh).1.symm
    by_cases hr : r < 0
    · rw [if_pos hr]
      refine key (q - 1) (r + y) ⟨?_, by omega, by omega⟩
      rw [Int.mul_sub]; omega
    · rw [if_neg hr]
      exact key q r ⟨h, by omega, by omega⟩
/-- Rounded down, of any divisor but 0. -/
def downI (x y : Int) : Int := if y < 0 then -x / -y else x / y
theorem downI_pos {x y : Int} (h : 0 < y) : downI x y = x / y := if_neg (by omega)
theorem downI_neg (x y : Int) (h : y ≠ 0) : downI (-x) (-y) = downI x y := by
  unfold downI
  rcases Int.lt_or_lt_of_ne h with h1 | h1
  · rw [if_neg (by omega), if_pos h1]
  · rw [if_pos (by omega), if_neg (by omega), Int.neg_neg, Int.neg_neg]
theorem down_of_trunc {x y : Int} (hy : y ≠ 0) : (if x.tmod y ≠ 0 ∧ ¬(x < 0 ↔ y < 0) then x.tdiv y - 1 else x.tdiv y) = downI x y := by
  rcases Int.lt_or_lt_of_ne hy with h | h
  · unfold downI
    rw [if_pos h, ← floor_of_trunc (show 0 < -y by omega), Int.neg_tdiv_neg, Int.neg_tmod, Int.tmod_neg]
    have hs : x.tmod y ≠ 0 → (x < 0 ↔ x.tmod y < 0) := by
      intro hne
      rcases Int.le_total 0 x with hx | hx
      · have := Int.tmod_nonneg y hx; omega
      · have := Int.tmod_nonneg y (show 0 ≤ -x by omega)
        rw [Int.neg_tmod] at this
        have : x ≠ 0 := by intro e; subst e; simp at hne
        omega
    by_cases h0 : x.tmod y = 0
    · rw [if_neg (by omega), if_neg (by omega)]
    · have := hs h0
      by_cases hx : x < 0
      · rw [if_neg (by omega), if_neg (by omega)]
      · rw [if_pos (by omega), if_pos (by omega)]
  · rw [downI_pos h, ← floor_of_trunc h]
    have hs : x.tmod y ≠ 0 → (x < 0 ↔ x.tmod y < 0) := by
      intro hne
      rcases Int.le_total 0 x with hx | hx
      · have := Int.tmod_nonneg y hx; omega
      · have := Int.tmod_nonneg y (show 0 ≤ -x by omega)
        rw [Int.neg_tmod] at this
        have : x ≠ 0 := by intro e; subst e; simp at hne
        omega
    by_cases h0 : x.tmod y = 0
    · rw [if_neg (by omega), if_neg (by omega)]
    · have := hs h0
      by_cases hx : x < 0
      · rw [if_pos (by omega), if_pos (by omega)]
      · rw [if_neg (by omega), if_neg (by omega)]
theorem ediv_anti {a y z : Int} (ha : 0 ≤ a) (hy : 0 < y) (h : y ≤ z) : a / z ≤ a / y := by
  rw [Int.le_ediv_iff_mul_le hy]
  have h0 : 0 ≤ a / z := Int.ediv_nonneg ha (by omega)
  exact Int.le_trans (Int.mul_le_mul_of_nonneg_left h h0) (Int.ediv_mul_le a (by omega))
theorem ediv_mono_neg {a y z : Int} (ha : a < 0) (hy : 0 < y) (h : y ≤ z) : a / y ≤ a / z := by
  rw [Int.le_ediv_iff_mul_le (by omega)]
  have h0 : a / y ≤ 0 := by
    have : a / y < 0 := Int.ediv_neg_of_neg_of_pos ha hy
    omega
  exact Int.le_trans (Int.mul_le_mul_of_nonpos_left h0 h) (Int.ediv_mul_le a (by omega))
theorem ediv_between {a y b1 b2 : Int} (h0 : 0 < b1) (h1 : b1 ≤ y) (h2 : y ≤ b2) : min (a / b1) (a / b2) ≤ a / y ∧ a / y ≤ max (a / b1) (a / b2) := by
  rcases Int.lt_or_le a 0 with h | h
  · have := ediv_mono_neg h h0 h1
    have := ediv_mono_neg h (by omega) h2
    omega
  · have := ediv_anti h h0 h1
    have := ediv_anti h (by omega) h2
    omega
theorem up_between {a y b1 b2 : Int} (h0 : 0 < b1) (h1 : b1 ≤ y) (h2 : y ≤ b2) : min (upI a b1) (upI a b2) ≤ upI a y ∧ upI a y ≤ max (upI a b1) (upI a b2) := by
  have := ediv_between (a := -a) h0 h1 h2
  unfold upI
  omega
theorem ediv_le' {a y : Int} (h : 0 < y) : -a.natAbs ≤ a / y ∧ a / y ≤ a.natAbs := by
  have h1 := ediv_between (a := a) (b1 := 1) (y := y) (b2 := y) (by omega) (by omega) (Int.le_refl _)
  rcases Int.lt_or_le a 0 with h2 | h2
  · have h3 := ediv_mono_neg h2 (show (0 : Int) < 1 by omega) (show (1 : Int) ≤ y by omega)
    have : a / y < 0 := Int.ediv_neg_of_neg_of_pos h2 h
    rw [Int.ediv_one] at h3
    omega
  · have h3 := ediv_anti h2 (show (0 : Int) < 1 by omega) (show (1 : Int) ≤ y by omega)
    have := Int.ediv_nonneg h2 (show 0 ≤ y by omega)
    rw [Int.ediv_one] at h3
    omega
theorem down_le_up {a y : Int} (h : 0 < y) : a / y ≤ upI a y := by
  have h1 := Int.ediv_mul_le a (Int.ne_of_gt h)
  have h2 := le_up (x := a) h
  rcases Int.lt_or_le (upI a y) (a / y) with h3 | h3
  · exfalso
    have h4 : upI a y * y < a / y * y := Int.mul_lt_mul_of_pos_right h3 h
    omega
  · exact h3

/-! Div. -/
def negI (a : Int × Int) : Int × Int := (-a.2, -a.1)
def quotW (a b : Int × Int) : Int × Int := (min (a.1 / b.1) (a.1 / b.2), max (upI a.2 b.1) (upI a.2 b.2))
def divW (a b : Int × Int) : (Int × Int) × Int :=
  if b.1 ≤ 0 ∧ 0 ≤ b.2 then ((0, 0), 9) else if b.2 < 0 then (quotW (negI a) (negI b), 0) else (quotW a b, 0)
end Go.Proofs.Ytmmgbofhbnflkaa
