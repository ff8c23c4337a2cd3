import Init.Data.Nat.Bitwise
namespace Go.Proofs.Ytmmgbofhbnflkaa

/-! A digit of a quotient of two words (Knuth's D, of words of 64 bits by halves). -/
structure DigIn (y y1 y0 U u : Nat) : Prop where
  hy : y = y1 * 4294967296 + y0
  h0 : y0 < 4294967296
  h1 : 2147483648 ≤ y1
  h2 : y1 < 4294967296
  hU : U < y
  hu : u < 4294967296
structure Dig (y y1 y0 U u q r : Nat) : Prop where
  sum : q * y1 + r = U
  le : (U * 4294967296 + u) / y ≤ q
  hr : r < 4294967296
  hq : q ≤ 4294967297
theorem DigIn.pos {y y1 y0 U u : Nat} (h : DigIn y y1 y0 U u) : 0 < y := by obtain ⟨a, b, c, d, e, f⟩ := h; omega
theorem DigIn.lt {y y1 y0 U u : Nat} (h : DigIn y y1 y0 U u) : (U * 4294967296 + u) / y < 4294967296 := by
  rw [Nat.div_lt_iff_lt_mul h.pos]
  obtain ⟨a, b, c, d, e, f⟩ := h
  omega
theorem Dig.start {y y1 y0 U u : Nat} (h : DigIn y y1 y0 U u) : Dig y y1 y0 U u (U / y1) (U % y1) := by
  have hp := h.pos
  obtain ⟨a, b, c, d, e, f⟩ := h
  refine ⟨by rw [Nat.mul_comm]; exact Nat.div_add_mod _ _, ?_, Nat.lt_trans (Nat.mod_lt _ (by omega)) d, ?_⟩
  · rw [Nat.le_div_iff_mul_le (by omega)]
    have h1 : (U * 4294967296 + u) / y * y ≤ U * 4294967296 + u := Nat.div_mul_le_self _ _
    generalize (U * 4294967296 + u) / y = T at *
    rw [a, Nat.mul_add, ← Nat.mul_assoc] at h1
    generalize T * y1 = A at *
    generalize T * y0 = B at *
    omega
  · have : U / y1 < 4294967298 := by
      rw [Nat.div_lt_iff_lt_mul (by omega)]
      omega
    omega
theorem dig_iff {y y1 y0 U u q r : Nat} (h : DigIn y y1 y0 U u) (hs : q * y1 + r = U) : q ≤ (U * 4294967296 + u) / y ↔ q * y0 ≤ 4294967296 * r + u := by
  rw [Nat.le_div_iff_mul_le h.pos, h.hy, Nat.mul_add, ← Nat.mul_assoc, ← hs]
  generalize q * y1 = A
  generalize q * y0 = B
  omega
theorem Dig.bound {y y1 y0 U u q r : Nat} (h : DigIn y y1 y0 U u) (_d : Dig y y1 y0 U u q r) (hq : q < 4294967296) : q * y0 < 18446744073709551616 := by
  have h1 : q * y0 ≤ 4294967295 * y0 := Nat.mul_le_mul_right _ (by omega)
  have := h.h0
  omega
theorem Dig.done {y y1 y0 U u q r : Nat} (h : DigIn y y1 y0 U u) (d : Dig y y1 y0 U u q r) (hc : q * y0 ≤ 4294967296 * r + u) : q = (U * 4294967296 + u) / y :=
  Nat.le_antisymm ((dig_iff h d.sum).2 hc) d.le
theorem Dig.next {y y1 y0 U u q r : Nat} (h : DigIn y y1 y0 U u) (d : Dig y y1 y0 U u q r) (hc : 4294967296 ≤ q ∨ ¬ q * y0 ≤ 4294967296 * r + u) :
    1 ≤ q ∧ (q - 1) * y1 + (r + y1) = U ∧ (U * 4294967296 + u) / y ≤ q - 1 ∧ q - 1 ≤ 4294967296 := by
  have hT : (U * 4294967296 + u) / y < q := by
    rcases hc with hc | hc
    · exact Nat.lt_of_lt_of_le h.lt hc
    · exact Nat.lt_of_not_le (fun hh => hc ((dig_iff h d.sum).1 hh))
  have hq := d.hq
  have hs := d.sum
  generalize (U * 4294967296 + u) / y = T at *
  refine ⟨by omega, ?_, by omega, by omega⟩
  obtain ⟨k, rfl⟩ : ∃ k, q = k + 1 := ⟨q - 1, by omega⟩
  rw [Nat.add_mul, Nat.one_mul] at hs
  simp only [Nat.add_sub_cancel]
  omega
theorem Dig.go {y y1 y0 U u q r : Nat} (h : DigIn y y1 y0 U u) (d : Dig y y1 y0 U u q r) (hc : 4294967296 ≤ q ∨ ¬ q * y0 ≤ 4294967296 * r + u) (hr : r + y1 < 4294967296) : Dig y y1 y0 U u (q - 1) (r + y1) := by
  obtain ⟨a, b, c, e⟩ := d.next h hc
  exact ⟨b, c, hr, by omega⟩
theorem Dig.stop {y y1 y0 U u q r : Nat} (h : DigIn y y1 y0 U u) (d : Dig y y1 y0 U u q r) (hc : 4294967296 ≤ q ∨ ¬ q * y0 ≤ 4294967296 * r + u) (hr : ¬ r + y1 < 4294967296) : q - 1 = (U * 4294967296 + u) / y := by
  obtain ⟨a, b, c, e⟩ := d.next h hc
  refine Nat.le_antisymm ((dig_iff h b).2 ?_) c
  have h1 : (q - 1) * y0 ≤ 4294967296 * y0 := Nat.mul_le_mul_right _ e
  have := h.h0
  generalize (q - 1) * y0 = B at *
  omega
/-- Two digits make the quotient. -/
theorem two_digits' {y U u v B : Nat} (hy : 0 < y) : (U * (B * B) + (u * B + v)) / y = (U * B + u) / y * B + ((U * B + u) % y * B + v) / y ∧
    (U * (B * B) + (u * B + v)) % y = ((U * B + u) % y * B + v) % y := by
  have h := Nat.div_add_mod (U * B + u) y
  generalize (U * B + u) / y = T at *
  generalize (U * B + u) % y = R at *
  have e : U * (B * B) + (u * B + v) = R * B + v + y * (T * B) := by
    have : (U * B + u) * B = (y * T + R) * B := by rw [h]
    grind
  rw [e, Nat.add_mul_div_left _ _ hy, Nat.add_mul_mod_self_left]
  exact ⟨Nat.add_comm _ _, rfl⟩
theorem two_digits {y U u v : Nat} (hy : 0 < y) : (U * 18446744073709551616 + (u * 4294967296 + v)) / y = (U * 4294967296 + u) / y * 4294967296 + ((U * 4294967296 + u) % y * 4294967296 + v) / y ∧
    (U * 18446744073709551616 + (u * 4294967296 + v)) % y = ((U * 4294967296 + u) % y * 4294967296 + v) % y :=
  two_digits' (B := 4294967296) hy
/-- A quotient of numbers that are shifted alike. -/
theorem shifted_div {n y K : Nat} (hK : 0 < K) : n * K / (y * K) = n / y ∧ n * K % (y * K) = n % y * K := by
  exact ⟨Nat.mul_div_mul_right _ _ hK, Nat.mul_mod_mul_right _ _ _⟩

/-! Two words that stand for a number: the upper one times 2^64, plus the lower one. -/
theorem times_words (x y : Int) (a b : Int) (ha : a = x % 18446744073709551616) (hb : b = y % 18446744073709551616) (hx : -9223372036854775808 ≤ x ∧ x ≤ 9223372036854775807) (hy : -9223372036854775808 ≤ y ∧ y ≤ 9223372036854775807) :
    (a * b) % 18446744073709551616 = (x * y) % 18446744073709551616 ∧
    (a * b / 18446744073709551616 - (if x < 0 then b else 0) - (if y < 0 then a else 0)) % 18446744073709551616 = (x * y / 18446744073709551616) % 18446744073709551616 := by
  by_cases h1 : x < 0 <;> by_cases h2 : y < 0
  · have e1 : a = x + 18446744073709551616 := by omega
    have e2 : b = y + 18446744073709551616 := by omega
    have e3 : a * b = x * y + 18446744073709551616 * x + 18446744073709551616 * y + 18446744073709551616 * 18446744073709551616 := by rw [e1, e2]; grind
    rw [if_pos h1, if_pos h2, e3]
    generalize x * y = P
    omega
  · have e1 : a = x + 18446744073709551616 := by omega
    have e2 : b = y := by omega
    have e3 : a * b = x * y + 18446744073709551616 * y := by rw [e1, e2]; grind
    rw [if_pos h1, if_neg h2, e3]
    generalize x * y = P
    omega
  · have e1 : a = x := by omega
    have e2 : b = y + 18446744073709551616 := by omega
    have e3 : a * b = x * y + 18446744073709551616 * x := by rw [e1, e2]; grind
    rw [if_neg h1, if_pos h2, e3]
    generalize x * y = P
    omega
  · have e1 : a = x := by omega
    have e2 : b = y := by omega
    rw [if_neg h1, if_neg h2, e1, e2]
    generalize x * y = P
    omega

/-! Bounds of intervals. -/
def okB (n : Int) : Bool := decide (-4611686018427387904 ≤ n) && decide (n ≤ 4611686018427387904)
theorem okB_iff {n : Int} : okB n = true ↔ -4611686018427387904 ≤ n ∧ n ≤ 4611686018427387904 := by
  unfold okB; rw [Bool.and_eq_true, decide_eq_true_eq, decide_eq_true_eq]
def examI (l : List (Int × Int)) : Int := if l.all (fun a => okB a.1 && okB a.2) then (if l.all (fun a => decide (a.1 ≤ a.2)) then 0 else 2) else 7
def spanW (lo hi : Int) : (Int × Int) × Int := if okB lo && okB hi then ((lo, hi), 0) else ((0, 0), 7)
def minW (a b : Int × Int) : Int := min (min (a.1 * b.1) (a.1 * b.2)) (min (a.2 * b.1) (a.2 * b.2))
def maxW (a b : Int × Int) : Int := max (max (a.1 * b.1) (a.1 * b.2)) (max (a.2 * b.1) (a.2 * b.2))
def upI (x d : Int) : Int := -(-x / d)
def prodsW (a b : Int × Int) (d : Int) : (Int × Int) × Int := spanW (minW a b / d) (upI (maxW a b) d)

/-! Products lie between those of the bounds. -/
theorem mul_between {x a b y : Int} (h1 : a ≤ x) (h2 : x ≤ b) : min (a * y) (b * y) ≤ x * y ∧ x * y ≤ max (a * y) (b * y) := by
  rcases Int.le_total 0 y with h | h
  · have e1 := Int.mul_le_mul_of_nonneg_right h1 h
    have e2 := Int.mul_le_mul_of_nonneg_right h2 h
    omega
  · have e1 := Int.mul_le_mul_of_nonpos_right h1 h
    have e2 := Int.mul_le_mul_of_nonpos_right h2 h
    omega
theorem prods_between {a b : Int × Int} {x y : Int} (h1 : a.1 ≤ x) (h2 : x ≤ a.2) (h3 : b.1 ≤ y) (h4 : y ≤ b.2) : minW a b ≤ x * y ∧ x * y ≤ maxW a b := by
  have p := mul_between (y := y) h1 h2
  have q := mul_between (y := a.1) h3 h4
  have r := mul_between (y := a.2) h3 h4
  simp only [Int.mul_comm _ a.1, Int.mul_comm _ a.2] at q r
  unfold minW maxW
  omega
theorem up_le {a b d : Int} (hd : 0 < d) (h : a ≤ b) : upI a d ≤ upI b d := by
  unfold upI
  have := Int.ediv_le_ediv hd (show -b ≤ -a by omega)
  omega
theorem le_up {x d : Int} (hd : 0 < d) : x ≤ upI x d * d := by
  unfold upI
  have := Int.ediv_mul_le (-x) (Int.ne_of_gt hd)
  rw [Int.neg_mul]
  omega
theorem up_le_iff {x d n : Int} (hd : 0 < d) : upI x d ≤ n ↔ x ≤ n * d := by
  unfold upI
  have h := Int.le_ediv_iff_mul_le hd (a := -n) (b := -x)
  rw [Int.neg_mul] at h
  omega
theorem upI_one (x : Int) : upI x 1 = x := by unfold upI; simp

/-! Powers. -/
theorem abs_pow_grows (x : Int) (k : Nat) : (x ^ k).natAbs ≤ (x ^ (k + 1)).natAbs ∨ x = 0 := by
  by_cases h : x = 0
  · exact .inr h
  · left
    rw [Int.pow_succ, Int.natAbs_mul]
    exact Nat.le_mul_of_pos_right _ (Int.natAbs_pos.2 h)
theorem okB_abs {n : Int} : okB n = true ↔ n.natAbs ≤ 4611686018427387904 := by rw [okB_iff]; omega
theorem okB_pow_down {x : Int} {k : Nat} (h : okB (x ^ (k + 1)) = true) : okB (x ^ k) = true := by
  rw [okB_abs] at h ⊢
  rcases abs_pow_grows x k with h1 | rfl
  · omega
  · cases k with
    | zero => simp
    | succ k => simp [Int.pow_succ]
theorem okB_pow_le {x : Int} {k n : Nat} (hk : k ≤ n) (h : okB (x ^ n) = true) : okB (x ^ k) = true := by
  induction n with
  | zero => obtain rfl : k = 0 := by omega
            exact h
  | succ n ih =>
    by_cases e : k = n + 1
    · rw [e]; exact h
    · exact ih (by omega) (okB_pow_down h)
def powI (x : Int) (k : Nat) : Int × Bool := if okB (x ^ k) then (x ^ k, true) else (0, false)
theorem npow_lt {r s k : Nat} (h : r < s) (hk : 1 ≤ k) : r ^ k < s ^ k := Nat.pow_lt_pow_left h (by omega)
/-- A whole root from 0 on. -/
def IsRootN (n k r : Nat) : Prop := r ^ k ≤ n ∧ n < (r + 1) ^ k
theorem IsRootN.uniq {n k r s : Nat} (h : IsRootN n k r) (h' : IsRootN n k s) : r = s := by
  rcases Nat.lt_trichotomy r s with e | e | e
  · have := Nat.pow_le_pow_left (show r + 1 ≤ s by omega) k
    have := h.2; have := h'.1; omega
  · exact e
  · have := Nat.pow_le_pow_left (show s + 1 ≤ r by omega) k
    have := h'.2; have := h.1; omega
theorem rootN_le {r k n : Nat} (hk : 1 ≤ k) (h : r ^ k ≤ n) (hn : n ≤ 4611686018427387904) : r ≤ 4611686018427387904 := by
  rcases Nat.eq_zero_or_pos r with e | e
  · omega
  · have : r ^ 1 ≤ r ^ k := Nat.pow_le_pow_right e hk
    rw [Nat.pow_one] at this; omega
end Go.Proofs.Ytmmgbofhbnflkaa
namespace Go.Proofs.Ytmmgbofhbnflkaa

/-! Quotients, rounded down and up. -/
theorem floor_of_trunc {x y : Int} (hy : 0 < y) : (if x.tmod y < 0 then x.tdiv y - 1 else x.tdiv y) = x / y := by
  rcases Int.le_total 0 x with hx | hx
  · rw [Int.tdiv_eq_ediv_of_nonneg hx, Int.tmod_eq_emod_of_nonneg hx, if_neg]
    have := Int.emod_nonneg x (Int.ne_of_gt hy)
    omega
  · have h := Int.tmod_add_mul_tdiv x y
    have h1 : x.tmod y ≤ 0 := by
      have := Int.tmod_nonneg y (show 0 ≤ -x by omega)
      rw [Int.neg_tmod] at this; omega
    have h2 : -y < x.tmod y := by
      have := Int.tmod_lt_of_pos (-x) hy
      rw [Int.neg_tmod] at this; omega
    generalize x.tmod y = r at *
    generalize x.tdiv y = q at *
    have key : ∀ q' r' : Int, r' + y * q' = x ∧ 0 ≤ r' ∧ r' < y → q' = x / y := fun q' r' hh => ((Int.ediv_emod_unique hy).2 hh).1.symm
    by_cases hr : r < 0
    · rw [if_pos hr]
      refine key (q - 1) (r + y) ⟨?_, by omega, by omega⟩
      rw [Int.mul_sub]; omega
    · rw [if_neg hr]
      exact key q r ⟨h, by omega, by omega⟩
/-- Rounded down, of any divisor but 0. -/
def downI (x y : Int) : Int := if y < 0 then -x / -y else x / y
theorem downI_pos {x y : Int} (h : 0 < y) : downI x y = x / y := if_neg (by omega)
theorem downI_neg (x y : Int) (h : y ≠ 0) : downI (-x) (-y) = downI x y := by
  unfold downI
  rcases Int.lt_or_lt_of_ne h with h1 | h1
  · rw [if_neg (by omega), if_pos h1]
  · rw [if_pos (by omega), if_neg (by omega), Int.neg_neg, Int.neg_neg]
theorem down_of_trunc {x y : Int} (hy : y ≠ 0) : (if x.tmod y ≠ 0 ∧ ¬(x < 0 ↔ y < 0) then x.tdiv y - 1 else x.tdiv y) = downI x y := by
  rcases Int.lt_or_lt_of_ne hy with h | h
  · unfold downI
    rw [if_pos h, ← floor_of_trunc (show 0 < -y by omega), Int.neg_tdiv_neg, Int.neg_tmod, Int.tmod_neg]
    have hs : x.tmod y ≠ 0 → (x < 0 ↔ x.tmod y < 0) := by
      intro hne
      rcases Int.le_total 0 x with hx | hx
      · have := Int.tmod_nonneg y hx; omega
      · have := Int.tmod_nonneg y (show 0 ≤ -x by omega)
        rw [Int.neg_tmod] at this
        have : x ≠ 0 := by intro e; subst e; simp at hne
        omega
    by_cases h0 : x.tmod y = 0
    · rw [if_neg (by omega), if_neg (by omega)]
    · have := hs h0
      by_cases hx : x < 0
      · rw [if_neg (by omega), if_neg (by omega)]
      · rw [if_pos (by omega), if_pos (by omega)]
  · rw [downI_pos h, ← floor_of_trunc h]
    have hs : x.tmod y ≠ 0 → (x < 0 ↔ x.tmod y < 0) := by
      intro hne
      rcases Int.le_total 0 x with hx | hx
      · have := Int.tmod_nonneg y hx; omega
      · have := Int.tmod_nonneg y (show 0 ≤ -x by omega)
        rw [Int.neg_tmod] at this
        have : x ≠ 0 := by intro e; subst e; simp at hne
        omega
    by_cases h0 : x.tmod y = 0
    · rw [if_neg (by omega), if_neg (by omega)]
    · have := hs h0
      by_cases hx : x < 0
      · rw [if_pos (by omega), if_pos (by omega)]
      · rw [if_neg (by omega), if_neg (by omega)]
theorem ediv_anti {a y z : Int} (ha : 0 ≤ a) (hy : 0 < y) (h : y ≤ z) : a / z ≤ a / y := by
  rw [Int.le_ediv_iff_mul_le hy]
  have h0 : 0 ≤ a / z := Int.ediv_nonneg ha (by omega)
  exact Int.le_trans (Int.mul_le_mul_of_nonneg_left h h0) (Int.ediv_mul_le a (by omega))
theorem ediv_mono_neg {a y z : Int} (ha : a < 0) (hy : 0 < y) (h : y ≤ z) : a / y ≤ a / z := by
  rw [Int.le_ediv_iff_mul_le (by omega)]
  have h0 : a / y ≤ 0 := by
    have : a / y < 0 := Int.ediv_neg_of_neg_of_pos ha hy
    omega
  exact Int.le_trans (Int.mul_le_mul_of_nonpos_left h0 h) (Int.ediv_mul_le a (by omega))
theorem ediv_between {a y b1 b2 : Int} (h0 : 0 < b1) (h1 : b1 ≤ y) (h2 : y ≤ b2) : min (a / b1) (a / b2) ≤ a / y ∧ a / y ≤ max (a / b1) (a / b2) := by
  rcases Int.lt_or_le a 0 with h | h
  · have := ediv_mono_neg h h0 h1
    have := ediv_mono_neg h (by omega) h2
    omega
  · have := ediv_anti h h0 h1
    have := ediv_anti h (by omega) h2
    omega
theorem up_between {a y b1 b2 : Int} (h0 : 0 < b1) (h1 : b1 ≤ y) (h2 : y ≤ b2) : min (upI a b1) (upI a b2) ≤ upI a y ∧ upI a y ≤ max (upI a b1) (upI a b2) := by
  have := ediv_between (a := -a) h0 h1 h2
  unfold upI
  omega
theorem ediv_le' {a y : Int} (h : 0 < y) : -a.natAbs ≤ a / y ∧ a / y ≤ a.natAbs := by
  have h1 := ediv_between (a := a) (b1 := 1) (y := y) (b2 := y) (by omega) (by omega) (Int.le_refl _)
  rcases Int.lt_or_le a 0 with h2 | h2
  · have h3 := ediv_mono_neg h2 (show (0 : Int) < 1 by omega) (show (1 : Int) ≤ y by omega)
    have : a / y < 0 := Int.ediv_neg_of_neg_of_pos h2 h
    rw [Int.ediv_one] at h3
    omega
  · have h3 := ediv_anti h2 (show (0 : Int) < 1 by omega) (show (1 : Int) ≤ y by omega)
    have := Int.ediv_nonneg h2 (show 0 ≤ y by omega)
    rw [Int.ediv_one] at h3
    omega
theorem down_le_up {a y : Int} (h : 0 < y) : a / y ≤ upI a y := by
  have h1 := Int.ediv_mul_le a (Int.ne_of_gt h)
  have h2 := le_up (x := a) h
  rcases Int.lt_or_le (upI a y) (a / y) with h3 | h3
  · exfalso
    have h4 : upI a y * y < a / y * y := Int.mul_lt_mul_of_pos_right h3 h
    omega
  · exact h3

/-! Div. -/
def negI (a : Int × Int) : Int × Int := (-a.2, -a.1)
def quotW (a b : Int × Int) : Int × Int := (min (a.1 / b.1) (a.1 / b.2), max (upI a.2 b.1) (upI a.2 b.2))
def divW (a b : Int × Int) : (Int × Int) × Int :=
  if b.1 ≤ 0 ∧ 0 ≤ b.2 then ((0, 0), 9) else if b.2 < 0 then (quotW (negI a) (negI b), 0) else (quotW a b, 0)
end Go.Proofs.Ytmmgbofhbnflkaa
namespace Go.Proofs.Ytmmgbofhbnflkaa

/-! The law's own words: a value at two numbers, and those at the corners. -/
def valW (which : Nat) (x y : Int) : Int × Int :=
  if which = 0 then (x + y, x + y) else if which = 1 then (x - y, x - y) else if which = 2 then (x * y, x * y) else (downI x y, -downI (-x) y)
def joinW (o n : Int × Int) : Int × Int := (min o.1 n.1, max o.2 n.2)
def cornW (which : Nat) (a b : Int × Int) : Int × Int :=
  joinW (joinW (joinW (valW which a.1 b.1) (valW which a.2 b.1)) (valW which a.1 b.2)) (valW which a.2 b.2)
def inW (n : Int) (a : Int × Int) : Prop := a.1 ≤ n ∧ n ≤ a.2
def Iv31 (a : Int × Int) : Prop := -2147483648 ≤ a.1 ∧ a.1 ≤ a.2 ∧ a.2 ≤ 2147483648

theorem joinW_self (a : Int × Int) : joinW a a = a := by unfold joinW; rw [Int.min_self, Int.max_self]

theorem mul31 {x y : Int} (hx : -2147483648 ≤ x ∧ x ≤ 2147483648) (hy : -2147483648 ≤ y ∧ y ≤ 2147483648) : -4611686018427387904 ≤ x * y ∧ x * y ≤ 4611686018427387904 := by
  have h : (x * y).natAbs ≤ 2147483648 * 2147483648 := by
    rw [Int.natAbs_mul]
    exact Nat.mul_le_mul (by omega) (by omega)
  omega

def opW (which : Nat) (a b : Int × Int) : (Int × Int) × Int :=
  if which = 0 then spanW (a.1 + b.1) (a.2 + b.2) else if which = 1 then spanW (a.1 - b.2) (a.2 - b.1) else if which = 2 then prodsW a b 1 else divW a b

theorem spanW_ok {lo hi : Int} (h1 : okB lo = true) (h2 : okB hi = true) : spanW lo hi = ((lo, hi), 0) := by
  unfold spanW; rw [h1, h2]; rfl
theorem okB_of {n : Int} (h : -4611686018427387904 ≤ n ∧ n ≤ 4611686018427387904) : okB n = true := okB_iff.2 h

theorem prods31 {a b : Int × Int} (ha : Iv31 a) (hb : Iv31 b) : prodsW a b 1 = ((minW a b, maxW a b), 0) := by
  unfold prodsW
  obtain ⟨h1, h2, h3⟩ := ha
  obtain ⟨h4, h5, h6⟩ := hb
  have p1 := mul31 (x := a.1) (y := b.1) (by omega) (by omega)
  have p2 := mul31 (x := a.1) (y := b.2) (by omega) (by omega)
  have p3 := mul31 (x := a.2) (y := b.1) (by omega) (by omega)
  have p4 := mul31 (x := a.2) (y := b.2) (by omega) (by omega)
  rw [Int.ediv_one, upI_one]
  refine spanW_ok (okB_of ?_) (okB_of ?_)
  · unfold minW; omega
  · unfold maxW; omega

/-- What is computed is what the corners say, and has what is computed of members. -/
theorem inside (which : Nat) {a b : Int × Int} (ha : Iv31 a) (hb : Iv31 b) {x y : Int} (hx : inW x a) (hy : inW y b) (h0 : which ≤ 2 ∨ ¬ (b.1 ≤ 0 ∧ 0 ≤ b.2)) :
    opW which a b = (cornW which a b, 0) ∧ inW (valW which x y).1 (cornW which a b) ∧ inW (valW which x y).2 (cornW which a b) := by
  have hx' := hx
  have hy' := hy
  unfold inW at hx hy
  have ha' := ha
  have hb' := hb
  unfold Iv31 at ha hb
  by_cases h1 : which = 0
  · subst h1
    refine ⟨?_, ?_⟩
    · have e : opW 0 a b = spanW (a.1 + b.1) (a.2 + b.2) := rfl
      rw [e, spanW_ok (okB_of (by omega)) (okB_of (by omega))]
      congr 1
      unfold cornW joinW valW
      simp only [if_true]
      ext <;> simp only <;> omega
    · unfold cornW joinW valW inW
      simp only [if_true]
      omega
  by_cases h2 : which = 1
  · subst h2
    refine ⟨?_, ?_⟩
    · have e : opW 1 a b = spanW (a.1 - b.2) (a.2 - b.1) := rfl
      rw [e, spanW_ok (okB_of (by omega)) (okB_of (by omega))]
      congr 1
      unfold cornW joinW valW
      simp only [if_neg h1, if_true]
      ext <;> simp only <;> omega
    · unfold cornW joinW valW inW
      simp only [if_neg h1, if_true]
      omega
  by_cases h3 : which = 2
  · subst h3
    have hbt := prods_between hx.1 hx.2 hy.1 hy.2
    refine ⟨?_, ?_⟩
    · have e : opW 2 a b = prodsW a b 1 := rfl
      rw [e, prods31 ha' hb']
      congr 1
      unfold cornW joinW valW minW maxW
      simp only [if_neg h1, if_neg h2, if_true]
      ext <;> simp only <;> omega
    · unfold minW maxW at hbt
      unfold cornW joinW valW inW
      simp only [if_neg h1, if_neg h2, if_true]
      omega
  · have h0' : ¬ (b.1 ≤ 0 ∧ 0 ≤ b.2) := by
      rcases h0 with h | h
      · omega
      · exact h
    have e : opW which a b = divW a b := by unfold opW; rw [if_neg h1, if_neg h2, if_neg h3]
    have ev : ∀ x y, valW which x y = (downI x y, -downI (-x) y) := fun x y => by unfold valW; rw [if_neg h1, if_neg h2, if_neg h3]
    unfold cornW joinW inW
    rw [e]
    simp only [ev]
    unfold divW
    rw [if_neg h0']
    by_cases hn : b.2 < 0
    · rw [if_pos hn]
      have u1 : ∀ x y : Int, y < 0 → downI x y = -x / -y := fun x y h => if_pos h
      have u2 : ∀ x y : Int, y < 0 → -downI (-x) y = upI (-x) (-y) := fun x y h => by unfold downI upI; rw [if_pos h]
      rw [u1 _ _ (show b.1 < 0 by omega), u1 _ _ hn, u1 _ _ (show b.1 < 0 by omega), u1 _ _ hn, u1 _ _ (show y < 0 by omega)]
      rw [u2 _ _ (show b.1 < 0 by omega), u2 _ _ hn, u2 _ _ (show b.1 < 0 by omega), u2 _ _ hn, u2 _ _ (show y < 0 by omega)]
      have f1 := Int.ediv_le_ediv (show 0 < -b.1 by omega) (show -a.2 ≤ -a.1 by omega)
      have f2 := Int.ediv_le_ediv (show 0 < -b.2 by omega) (show -a.2 ≤ -a.1 by omega)
      have g1 := up_le (show 0 < -b.1 by omega) (show -a.2 ≤ -a.1 by omega)
      have g2 := up_le (show 0 < -b.2 by omega) (show -a.2 ≤ -a.1 by omega)
      have f3 := ediv_between (a := -a.2) (show 0 < -b.2 by omega) (show -b.2 ≤ -y by omega) (show -y ≤ -b.1 by omega)
      have g3 := up_between (a := -a.1) (show 0 < -b.2 by omega) (show -b.2 ≤ -y by omega) (show -y ≤ -b.1 by omega)
      have f4 := Int.ediv_le_ediv (show 0 < -y by omega) (show -a.2 ≤ -x by omega)
      have g4 := up_le (show 0 < -y by omega) (show -x ≤ -a.1 by omega)
      have m := down_le_up (a := -x) (show 0 < -y by omega)
      unfold quotW negI
      simp only
      generalize -a.1 / -b.1 = t1 at *
      generalize -a.1 / -b.2 = t2 at *
      generalize -a.2 / -b.1 = t3 at *
      generalize -a.2 / -b.2 = t4 at *
      generalize -a.2 / -y = t5 at *
      generalize -x / -y = t6 at *
      generalize upI (-a.1) (-b.1) = s1 at *
      generalize upI (-a.1) (-b.2) = s2 at *
      generalize upI (-a.2) (-b.1) = s3 at *
      generalize upI (-a.2) (-b.2) = s4 at *
      generalize upI (-a.1) (-y) = s5 at *
      generalize upI (-x) (-y) = s6 at *
      refine ⟨?_, by omega, by omega⟩
      congr 1
      ext <;> simp only <;> omega
    · rw [if_neg hn]
      have u1 : ∀ x y : Int, 0 < y → downI x y = x / y := fun x y h => downI_pos h
      have u2 : ∀ x y : Int, 0 < y → -downI (-x) y = upI x y := fun x y h => by rw [downI_pos h]; rfl
      rw [u1 _ _ (show 0 < b.1 by omega), u1 _ _ (show 0 < b.2 by omega), u1 _ _ (show 0 < b.1 by omega), u1 _ _ (show 0 < b.2 by omega), u1 _ _ (show 0 < y by omega)]
      rw [u2 _ _ (show 0 < b.1 by omega), u2 _ _ (show 0 < b.2 by omega), u2 _ _ (show 0 < b.1 by omega), u2 _ _ (show 0 < b.2 by omega), u2 _ _ (show 0 < y by omega)]
      have f1 := Int.ediv_le_ediv (show 0 < b.1 by omega) (show a.1 ≤ a.2 by omega)
      have f2 := Int.ediv_le_ediv (show 0 < b.2 by omega) (show a.1 ≤ a.2 by omega)
      have g1 := up_le (show 0 < b.1 by omega) (show a.1 ≤ a.2 by omega)
      have g2 := up_le (show 0 < b.2 by omega) (show a.1 ≤ a.2 by omega)
      have f3 := ediv_between (a := a.1) (show 0 < b.1 by omega) (show b.1 ≤ y by omega) (show y ≤ b.2 by omega)
      have g3 := up_between (a := a.2) (show 0 < b.1 by omega) (show b.1 ≤ y by omega) (show y ≤ b.2 by omega)
      have f4 := Int.ediv_le_ediv (show 0 < y by omega) (show a.1 ≤ x by omega)
      have g4 := up_le (show 0 < y by omega) (show x ≤ a.2 by omega)
      have m := down_le_up (a := x) (show 0 < y by omega)
      unfold quotW
      generalize a.1 / b.1 = t1 at *
      generalize a.1 / b.2 = t2 at *
      generalize a.2 / b.1 = t3 at *
      generalize a.2 / b.2 = t4 at *
      generalize a.1 / y = t5 at *
      generalize x / y = t6 at *
      generalize upI a.1 b.1 = s1 at *
      generalize upI a.1 b.2 = s2 at *
      generalize upI a.2 b.1 = s3 at *
      generalize upI a.2 b.2 = s4 at *
      generalize upI a.2 y = s5 at *
      generalize upI x y = s6 at *
      refine ⟨?_, by omega, by omega⟩
      congr 1
      ext <;> simp only <;> omega
end Go.Proofs.Ytmmgbofhbnflkaa
namespace Go.Proofs.Ytmmgbofhbnflkaa

/-! Pow, Root, Pi, Disc, Scale. -/
def sizesI (a : Int × Int) : Int × Int := if 0 ≤ a.1 then a else if a.2 ≤ 0 then negI a else (0, max (-a.1) a.2)
def powW (a : Int × Int) (k : Int) : (Int × Int) × Int :=
  if k < 0 ∨ 62 < k then ((0, 0), 2) else
  spanW ((if k % 2 = 0 then sizesI a else a).1 ^ k.toNat) ((if k % 2 = 0 then sizesI a else a).2 ^ k.toNat)
def piL : Int × Int := (3141592653589793238, 3141592653589793239)
def piW (a : Int × Int) : (Int × Int) × Int := prodsW a piL 1000000000000000000
def discW (a : Int × Int) : (Int × Int) × Int :=
  if a.1 < 0 then ((0, 0), 9) else if 3000000000 < a.2 then ((0, 0), 7) else prodsW (a.1 * a.1, a.2 * a.2) piL 4000000000000000000
def scaleW (a : Int × Int) (num den : Int) : (Int × Int) × Int :=
  if 1 ≤ den ∧ okB den = true ∧ okB num = true then prodsW a (num, num) den else ((0, 0), 2)

theorem Iv31.mul {a b : Int × Int} (ha : Iv31 a) (hb : Iv31 b) : (prodsW a b 1).2 = 0 := by rw [prods31 ha hb]

/-- Of narrower intervals the products lie within. -/
theorem narrow_minmax {a b s t : Int × Int} (h1 : a.1 ≤ s.1) (h2 : s.1 ≤ s.2) (h3 : s.2 ≤ a.2) (h4 : b.1 ≤ t.1) (h5 : t.1 ≤ t.2) (h6 : t.2 ≤ b.2) : minW a b ≤ minW s t ∧ minW s t ≤ maxW s t ∧ maxW s t ≤ maxW a b := by
  have p1 := prods_between (a := a) (b := b) (x := s.1) (y := t.1) (by omega) (by omega) (by omega) (by omega)
  have p2 := prods_between (a := a) (b := b) (x := s.1) (y := t.2) (by omega) (by omega) (by omega) (by omega)
  have p3 := prods_between (a := a) (b := b) (x := s.2) (y := t.1) (by omega) (by omega) (by omega) (by omega)
  have p4 := prods_between (a := a) (b := b) (x := s.2) (y := t.2) (by omega) (by omega) (by omega) (by omega)
  generalize minW a b = m at *
  generalize maxW a b = n at *
  unfold minW maxW
  omega
theorem narrow_mul {a b s t : Int × Int} (ha : Iv31 a) (hb : Iv31 b) (h1 : a.1 ≤ s.1) (h2 : s.1 ≤ s.2) (h3 : s.2 ≤ a.2) (h4 : b.1 ≤ t.1) (h5 : t.1 ≤ t.2) (h6 : t.2 ≤ b.2) :
    ∃ c d, prodsW a b 1 = (c, 0) ∧ prodsW s t 1 = (d, 0) ∧ inW d.1 c ∧ inW d.2 c := by
  have hs : Iv31 s := by unfold Iv31 at *; omega
  have ht : Iv31 t := by unfold Iv31 at *; omega
  have h := narrow_minmax h1 h2 h3 h4 h5 h6
  refine ⟨_, _, prods31 ha hb, prods31 hs ht, ?_, ?_⟩ <;> unfold inW <;> simp only <;> omega
theorem narrow_pi {a s : Int × Int} (ha : Iv31 a) (h1 : a.1 ≤ s.1) (h2 : s.1 ≤ s.2) (h3 : s.2 ≤ a.2) : ∃ c d, piW a = (c, 0) ∧ piW s = (d, 0) ∧ inW d.1 c ∧ inW d.2 c := by
  have h := narrow_minmax (b := piL) (t := piL) h1 h2 h3 (Int.le_refl _) (by decide) (Int.le_refl _)
  have hl : ∀ x, a.1 ≤ x → x ≤ a.2 → -7000000000000000000000000000 ≤ x * 3141592653589793238 ∧ x * 3141592653589793238 ≤ 7000000000000000000000000000 ∧ -7000000000000000000000000000 ≤ x * 3141592653589793239 ∧ x * 3141592653589793239 ≤ 7000000000000000000000000000 := by
    intro x hx1 hx2
    unfold Iv31 at ha
    omega
  have l1 := hl a.1 (by omega) (by omega)
  have l2 := hl a.2 (by omega) (by omega)
  have h4 : -7000000000000000000000000000 ≤ minW a piL ∧ maxW a piL ≤ 7000000000000000000000000000 := by
    unfold minW maxW piL
    simp only
    omega
  unfold piW prodsW
  generalize minW a piL = m at *
  generalize maxW a piL = n at *
  generalize minW s piL = m' at *
  generalize maxW s piL = n' at *
  have hb : ∀ z : Int, -7000000000000000000000000000 ≤ z → z ≤ 7000000000000000000000000000 → okB (z / 1000000000000000000) = true ∧ okB (upI z 1000000000000000000) = true := by
    intro z hz1 hz2
    unfold upI
    exact ⟨okB_of (by omega), okB_of (by omega)⟩
  rw [spanW_ok (hb m (by omega) (by omega)).1 (hb n (by omega) (by omega)).2, spanW_ok (hb m' (by omega) (by omega)).1 (hb n' (by omega) (by omega)).2]
  refine ⟨_, _, rfl, rfl, ?_, ?_⟩ <;> unfold inW upI <;> simp only <;> omega
theorem narrow_pow {a s : Int × Int} (ha : Iv31 a) (h1 : a.1 ≤ s.1) (h2 : s.1 ≤ s.2) (h3 : s.2 ≤ a.2) (k : Nat) (hk : k < 3) : ∃ c d, powW a k = (c, 0) ∧ powW s k = (d, 0) ∧ inW d.1 c ∧ inW d.2 c := by
  have ha' := ha
  unfold Iv31 at ha'
  have e : k = 0 ∨ k = 1 ∨ k = 2 := by omega
  rcases e with rfl | rfl | rfl
  · have : ∀ a : Int × Int, powW a (0 : Nat) = ((1, 1), 0) := fun a => by
      show spanW (_ ^ 0) (_ ^ 0) = _
      rw [Int.pow_zero, Int.pow_zero]; rfl
    rw [this, this]
    exact ⟨_, _, rfl, rfl, by unfold inW; decide, by unfold inW; decide⟩
  · have : ∀ a : Int × Int, powW a (1 : Nat) = spanW a.1 a.2 := fun a => by
      show spanW (a.1 ^ 1) (a.2 ^ 1) = _
      rw [Int.pow_succ, Int.pow_zero, Int.one_mul, Int.pow_succ, Int.pow_zero, Int.one_mul]
    rw [this, this, spanW_ok (okB_of (by omega)) (okB_of (by omega)), spanW_ok (okB_of (by omega)) (okB_of (by omega))]
    refine ⟨_, _, rfl, rfl, ?_, ?_⟩ <;> unfold inW <;> simp only <;> omega
  · have : ∀ a : Int × Int, powW a (2 : Nat) = spanW ((sizesI a).1 * (sizesI a).1) ((sizesI a).2 * (sizesI a).2) := fun a => by
      show spanW ((sizesI a).1 ^ 2) ((sizesI a).2 ^ 2) = _
      rw [Int.pow_succ, Int.pow_succ, Int.pow_zero, Int.one_mul, Int.pow_succ, Int.pow_succ, Int.pow_zero, Int.one_mul]
    have hz : ∀ a : Int × Int, a.1 ≤ a.2 → -2147483648 ≤ a.1 → a.2 ≤ 2147483648 → 0 ≤ (sizesI a).1 ∧ (sizesI a).1 ≤ (sizesI a).2 ∧ (sizesI a).2 ≤ 2147483648 := by
      intro a e1 e2 e3
      unfold sizesI negI
      split
      · omega
      · split <;> simp only <;> omega
    have za := hz a (by omega) (by omega) (by omega)
    have zs := hz s (by omega) (by omega) (by omega)
    have hn : (sizesI a).1 ≤ (sizesI s).1 ∧ (sizesI s).2 ≤ (sizesI a).2 := by
      unfold sizesI negI
      repeat' split
      all_goals first | omega | (simp only; omega)
    have sq : ∀ x : Int, 0 ≤ x → x ≤ 2147483648 → okB (x * x) = true := fun x e1 e2 => okB_of (mul31 ⟨by omega, e2⟩ ⟨by omega, e2⟩)
    rw [this, this, spanW_ok (sq _ (by omega) (by omega)) (sq _ (by omega) (by omega)), spanW_ok (sq _ (by omega) (by omega)) (sq _ (by omega) (by omega))]
    refine ⟨_, _, rfl, rfl, ?_, ?_⟩
    · unfold inW
      exact ⟨Int.mul_le_mul hn.1 hn.1 (by omega) (by omega), Int.mul_le_mul (by omega) (by omega) (by omega) (by omega)⟩
    · unfold inW
      exact ⟨Int.mul_le_mul (by omega) (by omega) (by omega) (by omega), Int.mul_le_mul hn.2 hn.2 (by omega) (by omega)⟩

theorem back_add {a b : Int × Int} (ha : Iv31 a) (hb : Iv31 b) : ∃ s r, spanW (a.1 + b.1) (a.2 + b.2) = (s, 0) ∧ s.1 ≤ s.2 ∧ okB s.1 = true ∧ okB s.2 = true ∧ spanW (s.1 - b.2) (s.2 - b.1) = (r, 0) ∧ inW a.1 r ∧ inW a.2 r := by
  unfold Iv31 at ha hb
  refine ⟨_, _, spanW_ok (okB_of (by omega)) (okB_of (by omega)), by simp only; omega, okB_of (by simp only; omega), okB_of (by simp only; omega), spanW_ok (okB_of (by simp only; omega)) (okB_of (by simp only; omega)), ?_, ?_⟩ <;> unfold inW <;> simp only <;> omega

theorem quot_fits {a b : Int × Int} (h1 : -2147483648 ≤ a.1) (h2 : a.1 ≤ a.2) (h3 : a.2 ≤ 2147483648) (h4 : 0 < b.1) (h5 : b.1 ≤ b.2) : Iv31 (quotW a b) := by
  have e1 := ediv_le' (a := a.1) h4
  have e2 := ediv_le' (a := a.1) (y := b.2) (by omega)
  have e3 := ediv_le' (a := -a.2) h4
  have e4 := ediv_le' (a := -a.2) (y := b.2) (by omega)
  have e5 := down_le_up (a := a.1) h4
  have e6 := up_le h4 h2
  unfold Iv31 quotW upI at *
  simp only
  omega
theorem quot_back {a b : Int × Int} (h2 : a.1 ≤ a.2) (h4 : 0 < b.1) {x : Int} (h : a.1 ≤ x) (h' : x ≤ a.2) : minW (quotW a b) b ≤ x ∧ x ≤ maxW (quotW a b) b := by
  have e1 := Int.ediv_mul_le a.1 (Int.ne_of_gt h4)
  have e2 := le_up (x := a.2) h4
  have f1 : (quotW a b).1 * b.1 ≤ a.1 / b.1 * b.1 := Int.mul_le_mul_of_nonneg_right (by unfold quotW; simp only; omega) (by omega)
  have f2 : upI a.2 b.1 * b.1 ≤ (quotW a b).2 * b.1 := Int.mul_le_mul_of_nonneg_right (by unfold quotW; simp only; omega) (by omega)
  unfold minW maxW
  omega
theorem minW_neg (a b : Int × Int) : minW (quotW (negI a) (negI b)) b = -maxW (quotW (negI a) (negI b)) (negI b) ∧ maxW (quotW (negI a) (negI b)) b = -minW (quotW (negI a) (negI b)) (negI b) := by
  generalize quotW (negI a) (negI b) = q
  unfold minW maxW negI
  simp only [Int.mul_neg]
  omega
theorem back_div {a b : Int × Int} (ha : Iv31 a) (hb : Iv31 b) (h0 : ¬ (b.1 ≤ 0 ∧ 0 ≤ b.2)) : ∃ q r, divW a b = (q, 0) ∧ Iv31 q ∧ prodsW q b 1 = (r, 0) ∧ inW a.1 r ∧ inW a.2 r := by
  have ha' := ha
  have hb' := hb
  unfold Iv31 at ha hb
  unfold divW
  rw [if_neg h0]
  by_cases hn : b.2 < 0
  · rw [if_pos hn]
    have hf := quot_fits (a := negI a) (b := negI b) (by unfold negI; simp only; omega) (by unfold negI; simp only; omega) (by unfold negI; simp only; omega) (by unfold negI; simp only; omega) (by unfold negI; simp only; omega)
    have k1 := quot_back (a := negI a) (b := negI b) (x := -a.1) (by unfold negI; simp only; omega) (by unfold negI; simp only; omega) (by unfold negI; simp only; omega) (by unfold negI; simp only; omega)
    have k2 := quot_back (a := negI a) (b := negI b) (x := -a.2) (by unfold negI; simp only; omega) (by unfold negI; simp only; omega) (by unfold negI; simp only; omega) (by unfold negI; simp only; omega)
    have hm := minW_neg a b
    refine ⟨_, _, rfl, hf, prods31 hf hb', ?_, ?_⟩ <;> unfold inW <;> simp only <;> omega
  · rw [if_neg hn]
    have hf := quot_fits (a := a) (b := b) (by omega) (by omega) (by omega) (by omega) (by omega)
    have k1 := quot_back (a := a) (b := b) (x := a.1) (by omega) (by omega) (by omega) (by omega)
    have k2 := quot_back (a := a) (b := b) (x := a.2) (by omega) (by omega) (by omega) (by omega)
    refine ⟨_, _, rfl, hf, prods31 hf hb', ?_, ?_⟩ <;> unfold inW <;> simp only <;> omega

/-! SpansTurn. -/
def IsRoot (n r : Int) (k : Nat) : Prop := 0 ≤ r ∧ r ^ k ≤ n ∧ n < (r + 1) ^ k
theorem IsRoot.uniq {n r s : Int} {k : Nat} (h : IsRoot n r k) (h' : IsRoot n s k) : r = s := by
  obtain ⟨h0, h1, h2⟩ := h
  obtain ⟨g0, g1, g2⟩ := h'
  obtain ⟨r, rfl⟩ := Int.eq_ofNat_of_zero_le h0
  obtain ⟨s, rfl⟩ := Int.eq_ofNat_of_zero_le g0
  obtain ⟨n, rfl⟩ := Int.eq_ofNat_of_zero_le (Int.le_trans (Int.pow_nonneg h0) h1)
  have e1 : IsRootN n k r := ⟨by exact_mod_cast h1, by exact_mod_cast h2⟩
  have e2 : IsRootN n k s := ⟨by exact_mod_cast g1, by exact_mod_cast g2⟩
  rw [e1.uniq e2]
theorem isRoot_pow {a : Int} {k : Nat} (ha : 0 ≤ a) (hk : 1 ≤ k) : IsRoot (a ^ k) a k := by
  refine ⟨ha, Int.le_refl _, ?_⟩
  obtain ⟨a, rfl⟩ := Int.eq_ofNat_of_zero_le ha
  have := npow_lt (show a < a + 1 by omega) hk
  exact_mod_cast this
end Go.Proofs.Ytmmgbofhbnflkaa
