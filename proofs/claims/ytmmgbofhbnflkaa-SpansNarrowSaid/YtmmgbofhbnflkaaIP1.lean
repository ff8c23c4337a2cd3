import Init.Data.Nat.Bitwise
namespace Go.Proofs.Ytmmgbofhbnflkaa

/-! A digit of a quotient of two words (Knuth's D, of words of 64 bits by halves). -/
structure DigIn (y y1 y0 U u : Nat) : Prop where
  hy : y = y1 * 4294967296 + y0
  h0 : y0 < 4294967296
  h1 : 2147483648 ≤ y1
  h2 : y1 < 4294967296
  hU : U < y
  hu : u < 4294967296
structure Dig (y y1 y0 U u q r : Nat) : Prop where
  sum : q * y1 + r = U
  le : (U * 4294967296 + u) / y ≤ q
  hr : r < 4294967296
  hq : q ≤ 4294967297
theorem DigIn.pos {y y1 y0 U u : Nat} (h : DigIn y y1 y0 U u) : 0 < y := by obtain ⟨a, b, c, d, e, f⟩ := h; omega
theorem DigIn.lt {y y1 y0 U u : Nat} (h : DigIn y y1 y0 U u) : (U * 4294967296 + u) / y < 4294967296 := by
  rw [Nat.div_lt_iff_lt_mul h.pos]
  obtain ⟨a, b, c, d, e, f⟩ := h
  omega
theorem Dig.start {y y1 y0 U u : Nat} (h : DigIn y y1 y0 U u) : Dig y y1 y0 U u (U / y1) (U % y1) := by
  have hp := h.pos
  obtain ⟨a, b, c, d, e, f⟩ := h
  refine ⟨by rw [Nat.mul_comm]; exact Nat.div_add_mod _ _, ?_, Nat.lt_trans (Nat.mod_lt _ (by omega)) d, ?_⟩
  · rw [Nat.le_div_iff_mul_le (by omega)]
    have h1 : (U * 4294967296 + u) / y * y ≤ U * 4294967296 + u := Nat.div_mul_le_self _ _
    generalize (U * 4294967296 + u) / y = T at *
    rw [a, Nat.mul_add, ← Nat.mul_assoc] at h1
    generalize T * y1 = A at *
    generalize T * y0 = B at *
    omega
  · have : U / y1 < 4294967298 := by
      rw [Nat.div_lt_iff_lt_mul (by omega)]
      omega
    omega
theorem dig_iff {y y1 y0 U u q r : Nat} (h : DigIn y y1 y0 U u) (hs : q * y1 + r = U) : q ≤ (U * 4294967296 + u) / y ↔ q * y0 ≤ 4294967296 * r + u := by
  rw [Nat.le_div_iff_mul_le h.pos, h.hy, Nat.mul_add, ← Nat.mul_assoc, ← hs]
  generalize q * y1 = A
  generalize q * y0 = B
  omega
theorem Dig.bound {y y1 y0 U u q r : Nat} (h : DigIn y y1 y0 U u) (_d : Dig y y1 y0 U u q r) (hq : q < 4294967296) : q * y0 < 18446744073709551616 := by
  have h1 : q * y0 ≤ 4294967295 * y0 := Nat.mul_le_mul_right _ (by omega)
  have := h.h0
  omega
theorem Dig.done {y y1 y0 U u q r : Nat} (h : DigIn y y1 y0 U u) (d : Dig y y1 y0 U u q r) (hc : q * y0 ≤ 4294967296 * r + u) : q = (U * 4294967296 + u) / y :=
  Nat.le_antisymm ((dig_iff h d.sum).2 hc) d.le
theorem Dig.next {y y1 y0 U u q r : Nat} (h : DigIn y y1 y0 U u) (d : Dig y y1 y0 U u q r) (hc : 4294967296 ≤ q ∨ ¬ q * y0 ≤ 4294967296 * r + u) :
    1 ≤ q ∧ (q - 1) * y1 + (r + y1) = U ∧ (U * 4294967296 + u) / y ≤ q - 1 ∧ q - 1 ≤ 4294967296 := by
  have hT : (U * 4294967296 + u) / y < q := by
    rcases hc with hc | hc
    · exact Nat.lt_of_lt_of_le h.lt hc
    · exact Nat.lt_of_not_le (fun hh => hc ((dig_iff h d.sum).1 hh))
  have hq := d.hq
  have hs := d.sum
  generalize (U * 4294967296 + u) / y = T at *
  refine ⟨by omega, ?_, by omega, by omega⟩
  obtain ⟨k, rfl⟩ : ∃ k, q = k + 1 := ⟨q - 1, by omega⟩
  rw [Nat.add_mul, Nat.one_mul] at hs
  simp only [Nat.add_sub_cancel]
  omega
theorem Dig.go {y y1 y0 U u q r : Nat} (h : DigIn y y1 y0 U u) (d : Dig y y1 y0 U u q r) (hc : 4294967296 ≤ q ∨ ¬ q * y0 ≤ 4294967296 * r + u) (hr : r + y1 < 4294967296) : Dig y y1 y0 U u (q - 1) (r + y1) := by
  obtain ⟨a, b, c, e⟩ := d.next h hc
  exact ⟨b, c, hr, by omega⟩
theorem Dig.stop {y y1 y0 U u q r : Nat} (h : DigIn y y1 y0 U u) (d : Dig y y1 y0 U u q r) (hc : 4294967296 ≤ q ∨ ¬ q * y0 ≤ 4294967296 * r + u) (hr : ¬ r + y1 < 4294967296) : q - 1 = (U * 4294967296 + u) / y := by
  obtain ⟨a, b, c, e⟩ := d.next h hc
  refine Nat.le_antisymm ((dig_iff h b).2 ?_) c
  have h1 : (q - 1) * y0 ≤ 4294967296 * y0 := Nat.mul_le_mul_right _ e
  have := h.h0
  generalize (q - 1) * y0 = B at *
  omega
/-- Two digits make the quotient. -/
theorem two_digits' {y U u v B : Nat} (hy : 0 < y) : (U * (B * B) + (u * B + v)) / y = (U * B + u) / y * B + ((U * B + u) % y * B + v) / y ∧
    (U * (B * B) + (u * B + v)) % y = ((U * B + u) % y * B + v) % y := by
  have h := Nat.div_add_mod (U * B + u) y
  generalize (U * B + u) / y = T at *
  generalize (U * B + u) % y = R at *
  have e : U * (B * B) + (u * B + v) = R * B + v + y * (T * B) := by
    have : (U * B + u) * B = (y * T + R) * B := by rw [h]
    grind
  rw [e, Nat.add_mul_div_left _ _ hy, Nat.add_mul_mod_self_left]
  exact ⟨Nat.add_comm _ _, rfl⟩
theorem two_digits {y U u v : Nat} (hy : 0 < y) : (U * 18446744073709551616 + (u * 4294967296 + v)) / y = (U * 4294967296 + u) / y * 4294967296 + ((U * 4294967296 + u) % y * 4294967296 + v) / y ∧
    (U * 18446744073709551616 + (u * 4294967296 + v)) % y = ((U * 4294967296 + u) % y * 4294967296 + v) % y :=
  two_digits' (B := 4294967296) hy
/-- A quotient of numbers that are shifted alike. -/
theorem shifted_div {n y K : Nat} (hK : 0 < K) : n * K / (y * K) = n / y ∧ n * K % (y * K) = n % y * K := by
  exact ⟨Nat.mul_div_mul_right _ _ hK, Nat.mul_mod_mul_right _ _ _⟩

/-! Two words that stand for a number: the upper one times 2^64, plus the lower one. -/
theorem times_words (x y : Int) (a b : Int) (ha : a = x % 18446744073709551616) (hb : b = y % 18446744073709551616) (hx : -9223372036854775808 ≤ x ∧ x ≤ 9223372036854775807) (hy : -9223372036854775808 ≤ y ∧ y ≤ 9223372036854775807) :
    (a * b) % 18446744073709551616 = (x * y) % 18446744073709551616 ∧
    (a * b / 18446744073709551616 - (if x < 0 then b else 0) - (if y < 0 then a else 0)) % 18446744073709551616 = (x * y / 18446744073709551616) % 18446744073709551616 := by
  by_cases h1 : x < 0 <;> by_cases h2 : y < 0
  · have e1 : a = x + 18446744073709551616 := by omega
    have e2 : b = y + 18446744073709551616 := by omega
    have e3 : a * b = x * y + 18446744073709551616 * x + 18446744073709551616 * y + 18446744073709551616 * 18446744073709551616 := by rw [e1, e2]; grind
    rw [if_pos h1, if_pos h2, e3]
    generalize x * y = P
    omega
  · have e1 : a = x + 18446744073709551616 := by omega
    have e2 : b = y := by omega
    have e3 : a * b = x * y + 18446744073709551616 * y := by rw [e1, e2]; grind
    rw [if_pos h1, if_neg h2, e3]
    generalize x * y = P
    omega
  · have e1 : a = x := by omega
    have e2 : b = y + 18446744073709551616 := by omega
    have e3 : a * b = x * y + 18446744073709551616 * x := by rw [e1, e2]; grind
    rw [if_neg h1, if_pos h2, e3]
    generalize x * y = P
    omega
  · have e1 : a = x := by omega
    have e2 : b = y := by omega
    rw [if_neg h1, if_neg h2, e1, e2]
    generalize x * y = P
    omega

/-! Bounds of intervals. -/
def okB (n : Int) : Bool := decide (-4611686018427387904 ≤ n) && decide (n ≤ 4611686018427387904)
theorem okB_iff {n : Int} : okB n = true ↔ -4611686018427387904 ≤ n ∧ n ≤ 4611686018427387904 := by
  unfold okB; rw [Bool.and_eq_true, decide_eq_true_eq, decide_eq_true_eq]
def examI (l : List (Int × Int)) : Int := if l.all (fun a => okB a.1 && okB a.2) then (if l.all (fun a => decide (a.1 ≤ a.2)) then 0 else 2) else 7
def spanW (lo hi : Int) : (Int × Int) × Int := if okB lo && okB hi then ((lo, hi), 0) else ((0, 0), 7)
def minW (a b : Int × Int) : Int := min (min (a.1 * b.1) (a.1 * b.2)) (min (a.2 * b.1) (a.2 * b.2))
def maxW (a b : Int × Int) : Int := max (max (a.1 * b.1) (a.1 * b.2)) (max (a.2 * b.1) (a.2 * b.2))
def upI (x d : Int) : Int := -(-x / d)
def prodsW (a b : Int × Int) (d : Int) : (Int × Int) × Int := spanW (minW a b / d) (upI (maxW a b) d)

/-! Products lie between those of the bounds. -/
theorem mul_between {x a b y : Int} (h1 : a ≤ x) (h2 : x ≤ b) : min (a * y) (b * y) ≤ x * y ∧ x * y ≤ max (a * y) (b * y) := by
  rcases Int.le_total 0 y with h | h
  · have e1 := Int.mul_le_mul_of_nonneg_right h1 h
    have e2 := Int.mul_le_mul_of_nonneg_right h2 h
    omega
  · have e1 := Int.mul_le_mul_of_nonpos_right h1 h
    have e2 := Int.mul_le_mul_of_nonpos_right h2 h
    omega
theorem prods_between {a b : Int × Int} {x y : Int} (h1 : a.1 ≤ x) (h2 : x ≤ a.2) (h3 : b.1 ≤ y) (h4 : y ≤ b.2) : minW a b ≤ x * y ∧ x * y ≤ maxW a b := by
  have p := mul_between (y := y) h1 h2
  have q := mul_between (y := a.1) h3 h4
  have r := mul_between (y := a.2) h3 h4
  simp only [Int.mul_comm _ a.1, Int.mul_comm _ a.2] at q r
  unfold minW maxW
  omega
theorem up_le {a b d : Int} (hd : 0 < d) (h : a ≤ b) : upI a d ≤ upI b d := by
  unfold upI
  have := Int.ediv_le_ediv hd (show -b ≤ -a by omega)
  omega
theorem le_up {x d : Int} (hd : 0 < d) : x ≤ upI x d * d := by
  unfold upI
  have := Int.ediv_mul_le (-x) (Int.ne_of_gt hd)
  rw [Int.neg_mul]
  omega
theorem up_le_iff {x d n : Int} (hd : 0 < d) : upI x d ≤ n ↔ x ≤ n * d := by
  unfold upI
  have h := Int.le_ediv_iff_mul_le hd (a := -n) (b := -x)
  rw [Int.neg_mul] at h
  omega
theorem upI_one (x : Int) : upI x 1 = x := by unfold upI; simp

/-! Powers. -/
theorem abs_pow_grows (x : Int) (k : Nat) : (x ^ k).natAbs ≤ (x ^ (k + 1)).natAbs ∨ x = 0 := by
  by_cases h : x = 0
  · exact .inr h
  · left
    rw [Int.pow_succ, Int.natAbs_mul]
    exact Nat.le_mul_of_pos_right _ (Int.natAbs_pos.2 h)
theorem okB_abs {n : Int} : okB n = true ↔ n.natAbs ≤ 4611686018427387904 := by rw [okB_iff]; omega
theorem okB_pow_down {x : Int} {k : Nat} (h : okB (x ^ (k + 1)) = true) : okB (x ^ k) = true := by
  rw [okB_abs] at h ⊢
  rcases abs_pow_grows x k with h1 | rfl
  · omega
  · cases k with
    | zero => simp
    | succ k => simp [Int.pow_succ]
theorem okB_pow_le {x : Int} {k n : Nat} (hk : k ≤ n) (h : okB (x ^ n) = true) : okB (x ^ k) = true := by
  induction n with
  | zero => obtain rfl : k = 0 := by omega
            exact h
  | succ n ih =>
    by_cases e : k = n + 1
    · rw [e]; exact h
    · exact ih (by omega) (okB_pow_down h)
def powI (x : Int) (k : Nat) : Int × Bool := if okB (x ^ k) then (x ^ k, true) else (0, false)
theorem npow_lt {r s k : Nat} (h : r < s) (hk : 1 ≤ k) : r ^ k < s ^ k := Nat.pow_lt_pow_left h (by omega)
/-- A whole root from 0 on. -/
def IsRootN (n k r : Nat) : Prop := r ^ k ≤ n ∧ n < (r + 1) ^ k
theorem IsRootN.uniq {n k r s : Nat} (h : IsRootN n k r) (h' : IsRootN n k s) : r = s := by
  rcases Nat.lt_trichotomy r s with e | e | e
  · have := Nat.pow_le_pow_left (show r + 1 ≤ s by omega) k
    have := h.2; have := h'.1; omega
  · exact e
  · have := Nat.pow_le_pow_left (show s + 1 ≤ r by omega) k
    have := h'.2; have := h.1; omega
theorem rootN_le {r k n : Nat} (hk : 1 ≤ k) (h : r ^ k ≤ n) (hn : n ≤ 4611686018427387904) : r ≤ 4611686018427387904 := by
  rcases Nat.eq_zero_or_pos r with e | e
  · omega
  · have : r ^ 1 ≤ r ^ k := Nat.pow_le_pow_right e hk
    rw [Nat.pow_one] at this; omega
end Go.Proofs.Ytmmgbofhbnflkaa
