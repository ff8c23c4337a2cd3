namespace Go.Proofs.YtkoghdgfllichaaDoor

/-! Logarithms by squares, in whole numbers: a mantissa m of W words (F = 2^(64 W - 1), F <= m < 2 F) and the whole number e so far. -/
def sqB (F m : Nat) : Bool := decide (2 * F * F ≤ m * m)
def sqM (F m : Nat) : Nat := if sqB F m then m * m / (2 * F) else m * m / F
/-- The mantissa and the whole number after j squarings. -/
def tmM (K N : Nat) : Nat → Nat
  | 0 => N * 2 ^ (K - Nat.log2 N)
  | j + 1 => sqM (2 ^ K) (tmM K N j)
def tmE (K N : Nat) : Nat → Nat
  | 0 => Nat.log2 N
  | j + 1 => 2 * tmE K N j + (if sqB (2 ^ K) (tmM K N j) then 1 else 0)
structure TmOk (F N j m e : Nat) : Prop where
  lo : F ≤ m
  hi : m < 2 * F
  le : m * 2 ^ e ≤ F * N ^ (2 ^ j)
  ge : F * N ^ (2 ^ j) * F ^ (2 ^ j - 1) ≤ m * 2 ^ e * (F + 1) ^ (2 ^ j - 1)
theorem two_pow_pred (j : Nat) : 2 ^ (j + 1) - 1 = (2 ^ j - 1) + (2 ^ j - 1) + 1 := by
  have h : 0 < 2 ^ j := Nat.pow_pos (by omega)
  rw [Nat.pow_succ]; omega
theorem pow_dbl (N j : Nat) : N ^ (2 ^ (j + 1)) = N ^ (2 ^ j) * N ^ (2 ^ j) := by
  rw [Nat.pow_succ, Nat.mul_two, Nat.pow_add]
/-- One step; b: halved. G = F 2^b. -/
theorem tm_step {F N j m e m' b : Nat} (hF : 0 < F) (h : TmOk F N j m e) (hm : m' = m * m / (F * 2 ^ b)) (hlo : F ≤ m') (hhi : m' < 2 * F) : TmOk F N (j + 1) m' (2 * e + b) := by
  have hG : 0 < F * 2 ^ b := Nat.mul_pos hF (Nat.pow_pos (by omega))
  have h1 : m' * (F * 2 ^ b) ≤ m * m := by rw [hm]; exact Nat.div_mul_le_self _ _
  have h2 : m * m < (m' + 1) * (F * 2 ^ b) := by rw [hm, Nat.mul_comm (m * m / (F * 2 ^ b) + 1)]; exact Nat.lt_mul_div_succ _ hG
  refine ⟨hlo, hhi, ?_, ?_⟩
  · have h3 := Nat.mul_le_mul h.le h.le
    rw [pow_dbl]
    generalize N ^ (2 ^ j) = X at *
    have e1 : m * 2 ^ e * (m * 2 ^ e) = m * m * (2 ^ e * 2 ^ e) := by ac_rfl
    rw [e1] at h3
    have h4 := Nat.mul_le_mul_right (2 ^ e * 2 ^ e) h1
    have h5 := Nat.le_trans h4 h3
    have e2 : m' * (F * 2 ^ b) * (2 ^ e * 2 ^ e) = F * (m' * 2 ^ (2 * e + b)) := by
      rw [Nat.pow_add, Nat.two_mul, Nat.pow_add]; ac_rfl
    have e3 : F * X * (F * X) = F * (F * (X * X)) := by ac_rfl
    rw [e2, e3] at h5
    exact Nat.le_of_mul_le_mul_left h5 hF
  · have h3 := Nat.mul_le_mul h.ge h.ge
    rw [pow_dbl, two_pow_pred]
    generalize N ^ (2 ^ j) = X at *
    generalize 2 ^ j - 1 = p at *
    have h4 : (m' + 1) * F ≤ m' * (F + 1) := by rw [Nat.add_mul, Nat.mul_add]; omega
    have h5 : m * m * (2 ^ e * 2 ^ e) ≤ m' * (F + 1) * (2 ^ b * (2 ^ e * 2 ^ e)) := by
      have a1 := Nat.mul_le_mul_right (2 ^ e * 2 ^ e) (Nat.le_of_lt h2)
      have a2 := Nat.mul_le_mul_right (2 ^ b * (2 ^ e * 2 ^ e)) h4
      have e1 : (m' + 1) * (F * 2 ^ b) * (2 ^ e * 2 ^ e) = (m' + 1) * F * (2 ^ b * (2 ^ e * 2 ^ e)) := by ac_rfl
      rw [e1] at a1
      exact Nat.le_trans a1 a2
    have h6 := Nat.mul_le_mul_right ((F + 1) ^ p * (F + 1) ^ p) h5
    have e1 : m * 2 ^ e * (F + 1) ^ p * (m * 2 ^ e * (F + 1) ^ p) = m * m * (2 ^ e * 2 ^ e) * ((F + 1) ^ p * (F + 1) ^ p) := by ac_rfl
    rw [e1] at h3
    have h7 := Nat.le_trans h3 h6
    have e2 : F * X * F ^ p * (F * X * F ^ p) = F * (X * X) * (F ^ (p + p + 1)) := by
      rw [Nat.pow_add, Nat.pow_add, Nat.pow_one]; ac_rfl
    have e3 : m' * (F + 1) * (2 ^ b * (2 ^ e * 2 ^ e)) * ((F + 1) ^ p * (F + 1) ^ p) = m' * 2 ^ (2 * e + b) * (F + 1) ^ (p + p + 1) := by
      rw [Nat.pow_add 2, Nat.two_mul, Nat.pow_add 2, Nat.pow_add, Nat.pow_add, Nat.pow_one]; ac_rfl
    rw [e2, e3] at h7
    exact h7
theorem sq_ok {F m : Nat} (hF : 0 < F) (lo : F ≤ m) (hi : m < 2 * F) : F ≤ sqM F m ∧ sqM F m < 2 * F ∧ sqM F m = m * m / (F * 2 ^ (if sqB F m then 1 else 0)) := by
  unfold sqM
  have h1 : F * F ≤ m * m := Nat.mul_le_mul lo lo
  have h2 : m * m < 2 * F * (2 * F) := Nat.mul_lt_mul_of_lt_of_lt hi hi
  cases hb : sqB F m
  · have h3 : m * m < 2 * F * F := by
      unfold sqB at hb
      have := of_decide_eq_false hb
      omega
    simp only [Bool.false_eq_true, if_false, Nat.pow_zero, Nat.mul_one]
    exact ⟨(Nat.le_div_iff_mul_le hF).2 h1, (Nat.div_lt_iff_lt_mul hF).2 h3, by first | rfl | trivial⟩
  · have h3 : 2 * F * F ≤ m * m := by
      unfold sqB at hb
      exact of_decide_eq_true hb
    simp only [if_true, Nat.pow_one]
    refine ⟨(Nat.le_div_iff_mul_le (by omega)).2 (by rw [Nat.mul_comm F]; exact h3), (Nat.div_lt_iff_lt_mul (by omega)).2 h2, by rw [Nat.mul_comm F 2]⟩
theorem tm_ok {K N : Nat} (hN : 1 ≤ N) (hK : Nat.log2 N ≤ K) : ∀ j, TmOk (2 ^ K) N j (tmM K N j) (tmE K N j)
  | 0 => by
    have h1 : 2 ^ Nat.log2 N ≤ N := Nat.log2_self_le (by omega)
    have h2 : N < 2 ^ (Nat.log2 N + 1) := Nat.lt_log2_self
    have e : 2 ^ K = 2 ^ Nat.log2 N * 2 ^ (K - Nat.log2 N) := by rw [← Nat.pow_add]; congr 1; omega
    have hp : 0 < 2 ^ (K - Nat.log2 N) := Nat.pow_pos (by omega)
    refine ⟨?_, ?_, ?_, ?_⟩
    · show 2 ^ K ≤ N * 2 ^ (K - Nat.log2 N)
      rw [e]; exact Nat.mul_le_mul_right _ h1
    · show N * 2 ^ (K - Nat.log2 N) < 2 * 2 ^ K
      rw [e, ← Nat.mul_assoc, ← Nat.pow_succ']; exact Nat.mul_lt_mul_of_pos_right h2 hp
    · show N * 2 ^ (K - Nat.log2 N) * 2 ^ Nat.log2 N ≤ 2 ^ K * N ^ 1
      rw [e, Nat.pow_one]; exact Nat.le_of_eq (by ac_rfl)
    · show 2 ^ K * N ^ 1 * (2 ^ K) ^ 0 ≤ N * 2 ^ (K - Nat.log2 N) * 2 ^ Nat.log2 N * (2 ^ K + 1) ^ 0
      rw [e, Nat.pow_one, Nat.pow_zero, Nat.pow_zero]; exact Nat.le_of_eq (by ac_rfl)
  | j + 1 => by
    have ih := tm_ok hN hK j
    have hF : 0 < 2 ^ K := Nat.pow_pos (by omega)
    obtain ⟨a, b, c⟩ := sq_ok hF ih.lo ih.hi
    exact tm_step hF ih c a b
/-- (1 + 1/F)^p is at most F / (F - p). -/
theorem bern (F : Nat) : ∀ p, p ≤ F → (F + 1) ^ p * (F - p) ≤ F ^ (p + 1)
  | 0, _ => by simp
  | p + 1, h => by
    have ih := bern F p (by omega)
    obtain ⟨d, rfl⟩ : ∃ d, F = p + 1 + d := ⟨F - (p + 1), by omega⟩
    have e1 : p + 1 + d - p = d + 1 := by omega
    have e2 : p + 1 + d - (p + 1) = d := by omega
    rw [e1] at ih
    rw [e2, Nat.pow_succ, Nat.pow_succ (m := p + 1)]
    have h1 : (p + 1 + d + 1) * d ≤ (p + 1 + d) * (d + 1) := by
      rw [Nat.add_mul _ 1, Nat.mul_add _ d 1]; omega
    calc (p + 1 + d + 1) ^ p * (p + 1 + d + 1) * d = (p + 1 + d + 1) ^ p * ((p + 1 + d + 1) * d) := by rw [Nat.mul_assoc]
      _ ≤ (p + 1 + d + 1) ^ p * ((p + 1 + d) * (d + 1)) := Nat.mul_le_mul_left _ h1
      _ = (p + 1 + d + 1) ^ p * (d + 1) * (p + 1 + d) := by ac_rfl
      _ ≤ (p + 1 + d) ^ (p + 1) * (p + 1 + d) := Nat.mul_le_mul_right _ ih
theorem bern_two {F p : Nat} (hF : 0 < F) (h : 2 * p ≤ F) : (F + 1) ^ p ≤ 2 * F ^ p := by
  have h1 := bern F p (by omega)
  rw [Nat.pow_succ] at h1
  have h2 : F ≤ 2 * (F - p) := by omega
  have h3 : (F + 1) ^ p * F ≤ 2 * F ^ p * F :=
    calc (F + 1) ^ p * F ≤ (F + 1) ^ p * (2 * (F - p)) := Nat.mul_le_mul_left _ h2
      _ = 2 * ((F + 1) ^ p * (F - p)) := by ac_rfl
      _ ≤ 2 * (F ^ p * F) := Nat.mul_le_mul_left _ h1
      _ = 2 * F ^ p * F := by rw [Nat.mul_assoc]
  exact Nat.le_of_mul_le_mul_right h3 hF
/-- What the whole number says of the power. -/
theorem tm_bounds {K N j : Nat} (hN : 1 ≤ N) (hK : Nat.log2 N ≤ K) (hj : j + 1 ≤ K) : 2 ^ tmE K N j ≤ N ^ (2 ^ j) ∧ N ^ (2 ^ j) < 2 ^ (tmE K N j + 2) := by
  have h := tm_ok hN hK j
  have hF : 0 < 2 ^ K := Nat.pow_pos (by omega)
  have hj2 : 2 * (2 ^ j - 1) ≤ 2 ^ K := by
    have h1 : 2 ^ (j + 1) ≤ 2 ^ K := Nat.pow_le_pow_right (by omega) hj
    rw [Nat.pow_succ] at h1; omega
  obtain ⟨lo, hi, le, ge⟩ := h
  generalize tmM K N j = m at *
  generalize tmE K N j = e at *
  generalize N ^ (2 ^ j) = X at *
  generalize 2 ^ j - 1 = p at *
  generalize 2 ^ K = F at *
  have hb := bern_two hF hj2
  have hFp : 0 < F ^ p := Nat.pow_pos hF
  constructor
  · have h1 : F * 2 ^ e ≤ F * X := Nat.le_trans (Nat.mul_le_mul_right _ lo) le
    exact Nat.le_of_mul_le_mul_left h1 hF
  · have h1 : F * X * F ^ p ≤ m * 2 ^ e * (2 * F ^ p) := Nat.le_trans ge (Nat.mul_le_mul_left _ hb)
    have e1 : m * 2 ^ e * (2 * F ^ p) = m * 2 ^ e * 2 * F ^ p := by ac_rfl
    rw [e1] at h1
    have h2 := Nat.le_of_mul_le_mul_right h1 hFp
    have h3 : m * 2 ^ e * 2 < 2 * F * 2 ^ e * 2 := by
      have hp : 0 < 2 ^ e := Nat.pow_pos (by omega)
      exact Nat.mul_lt_mul_of_pos_right (Nat.mul_lt_mul_of_pos_right hi hp) (by omega)
    have e2 : 2 * F * 2 ^ e * 2 = F * 2 ^ (e + 2) := by rw [Nat.pow_add]; rw [show (2 : Nat) ^ 2 = 2 * 2 from rfl]; ac_rfl
    rw [e2] at h3
    exact Nat.lt_of_mul_lt_mul_left (Nat.lt_of_le_of_lt h2 h3)
end Go.Proofs.YtkoghdgfllichaaDoor
namespace Go.Proofs.YtkoghdgfllichaaDoor

/-! Products of powers, and the sums of the whole numbers of their logarithms. -/
def upP : List (Nat × Int) → Nat
  | [] => 1
  | x :: r => x.1 ^ x.2.toNat * upP r
def dnP : List (Nat × Int) → Nat
  | [] => 1
  | x :: r => x.1 ^ (-x.2).toNat * dnP r
def upA : List (Nat × Int) → Nat
  | [] => 0
  | x :: r => x.2.toNat + upA r
def dnA : List (Nat × Int) → Nat
  | [] => 0
  | x :: r => (-x.2).toNat + dnA r
def upE (K j : Nat) : List (Nat × Int) → Nat
  | [] => 0
  | x :: r => x.2.toNat * tmE K x.1 j + upE K j r
def dnE (K j : Nat) : List (Nat × Int) → Nat
  | [] => 0
  | x :: r => (-x.2).toNat * tmE K x.1 j + dnE K j r
/-- The sum that the program keeps. -/
def sumE (K j : Nat) : List (Nat × Int) → Int
  | [] => 0
  | x :: r => x.2 * (tmE K x.1 j : Int) + sumE K j r
/-- Half of the doubt. -/
def absA : List (Nat × Int) → Int
  | [] => 0
  | x :: r => max x.2 (-x.2) + absA r
/-- 1, 0 or -1: the product is greater than 1, equal to it, less. -/
def sgnP (l : List (Nat × Int)) : Int := if upP l = dnP l then 0 else if dnP l < upP l then 1 else -1
def goodN (K : Nat) (l : List (Nat × Int)) : Prop := ∀ x ∈ l, 1 ≤ x.1 ∧ Nat.log2 x.1 ≤ K
theorem part_int (a : Int) : a = (a.toNat : Int) - ((-a).toNat : Int) := by omega
theorem abs_int (a : Int) : max a (-a) = (a.toNat : Int) + ((-a).toNat : Int) := by omega
theorem sumE_eq (K j : Nat) : ∀ l, sumE K j l = (upE K j l : Int) - (dnE K j l : Int)
  | [] => rfl
  | x :: r => by
    show x.2 * (tmE K x.1 j : Int) + sumE K j r = ((x.2.toNat * tmE K x.1 j + upE K j r : Nat) : Int) - (((-x.2).toNat * tmE K x.1 j + dnE K j r : Nat) : Int)
    rw [sumE_eq K j r, Int.natCast_add, Int.natCast_add, Int.natCast_mul, Int.natCast_mul]
    have h : x.2 * (tmE K x.1 j : Int) = (x.2.toNat : Int) * (tmE K x.1 j : Int) - ((-x.2).toNat : Int) * (tmE K x.1 j : Int) := by
      rw [← Int.sub_mul, ← part_int]
    rw [h]; omega
theorem absA_eq : ∀ l, absA l = (upA l : Int) + (dnA l : Int)
  | [] => rfl
  | x :: r => by
    show max x.2 (-x.2) + absA r = ((x.2.toNat + upA r : Nat) : Int) + (((-x.2).toNat + dnA r : Nat) : Int)
    rw [absA_eq r, abs_int]; omega
theorem upP_pos {K : Nat} : ∀ {l : List (Nat × Int)}, goodN K l → 0 < upP l
  | [], _ => Nat.one_pos
  | x :: r, h => Nat.mul_pos (Nat.pow_pos (h x (by simp)).1) (upP_pos (K := K) fun y hy => h y (by simp [hy]))
theorem dnP_pos {K : Nat} : ∀ {l : List (Nat × Int)}, goodN K l → 0 < dnP l
  | [], _ => Nat.one_pos
  | x :: r, h => Nat.mul_pos (Nat.pow_pos (h x (by simp)).1) (dnP_pos (K := K) fun y hy => h y (by simp [hy]))
theorem pow_comm' (n a q : Nat) : (n ^ a) ^ q = (n ^ q) ^ a := by rw [← Nat.pow_mul, ← Nat.pow_mul, Nat.mul_comm]
theorem up_lo {K j : Nat} (hj : j + 1 ≤ K) : ∀ {l : List (Nat × Int)}, goodN K l → 2 ^ upE K j l ≤ upP l ^ (2 ^ j)
  | [], _ => by show 2 ^ 0 ≤ 1 ^ _; rw [Nat.one_pow]; exact Nat.le_refl _
  | x :: r, h => by
    have ih := up_lo hj (l := r) fun y hy => h y (by simp [hy])
    have hx := (tm_bounds (h x (by simp)).1 (h x (by simp)).2 hj).1
    show 2 ^ (x.2.toNat * tmE K x.1 j + upE K j r) ≤ (x.1 ^ x.2.toNat * upP r) ^ (2 ^ j)
    rw [Nat.pow_add, Nat.mul_pow, pow_comm', Nat.mul_comm x.2.toNat, Nat.pow_mul]
    exact Nat.mul_le_mul (Nat.pow_le_pow_left hx _) ih
theorem up_hi {K j : Nat} (hj : j + 1 ≤ K) : ∀ {l : List (Nat × Int)}, goodN K l → upP l ^ (2 ^ j) ≤ 2 ^ (upE K j l + 2 * upA l)
  | [], _ => by show 1 ^ _ ≤ 2 ^ 0; rw [Nat.one_pow]; exact Nat.le_refl _
  | x :: r, h => by
    have ih := up_hi hj (l := r) fun y hy => h y (by simp [hy])
    have hx := (tm_bounds (h x (by simp)).1 (h x (by simp)).2 hj).2
    show (x.1 ^ x.2.toNat * upP r) ^ (2 ^ j) ≤ 2 ^ (x.2.toNat * tmE K x.1 j + upE K j r + 2 * (x.2.toNat + upA r))
    have e : x.2.toNat * tmE K x.1 j + upE K j r + 2 * (x.2.toNat + upA r) = (tmE K x.1 j + 2) * x.2.toNat + (upE K j r + 2 * upA r) := by
      rw [Nat.add_mul, Nat.mul_comm x.2.toNat]; omega
    rw [e, Nat.pow_add, Nat.mul_pow, pow_comm', Nat.pow_mul]
    exact Nat.mul_le_mul (Nat.pow_le_pow_left (Nat.le_of_lt hx) _) ih
theorem dn_lo {K j : Nat} (hj : j + 1 ≤ K) : ∀ {l : List (Nat × Int)}, goodN K l → 2 ^ dnE K j l ≤ dnP l ^ (2 ^ j)
  | [], _ => by show 2 ^ 0 ≤ 1 ^ _; rw [Nat.one_pow]; exact Nat.le_refl _
  | x :: r, h => by
    have ih := dn_lo hj (l := r) fun y hy => h y (by simp [hy])
    have hx := (tm_bounds (h x (by simp)).1 (h x (by simp)).2 hj).1
    show 2 ^ ((-x.2).toNat * tmE K x.1 j + dnE K j r) ≤ (x.1 ^ (-x.2).toNat * dnP r) ^ (2 ^ j)
    rw [Nat.pow_add, Nat.mul_pow, pow_comm', Nat.mul_comm (-x.2).toNat, Nat.pow_mul]
    exact Nat.mul_le_mul (Nat.pow_le_pow_left hx _) ih
theorem dn_hi {K j : Nat} (hj : j + 1 ≤ K) : ∀ {l : List (Nat × Int)}, goodN K l → dnP l ^ (2 ^ j) ≤ 2 ^ (dnE K j l + 2 * dnA l)
  | [], _ => by show 1 ^ _ ≤ 2 ^ 0; rw [Nat.one_pow]; exact Nat.le_refl _
  | x :: r, h => by
    have ih := dn_hi hj (l := r) fun y hy => h y (by simp [hy])
    have hx := (tm_bounds (h x (by simp)).1 (h x (by simp)).2 hj).2
    show (x.1 ^ (-x.2).toNat * dnP r) ^ (2 ^ j) ≤ 2 ^ ((-x.2).toNat * tmE K x.1 j + dnE K j r + 2 * ((-x.2).toNat + dnA r))
    have e : (-x.2).toNat * tmE K x.1 j + dnE K j r + 2 * ((-x.2).toNat + dnA r) = (tmE K x.1 j + 2) * (-x.2).toNat + (dnE K j r + 2 * dnA r) := by
      rw [Nat.add_mul, Nat.mul_comm (-x.2).toNat]; omega
    rw [e, Nat.pow_add, Nat.mul_pow, pow_comm', Nat.pow_mul]
    exact Nat.mul_le_mul (Nat.pow_le_pow_left (Nat.le_of_lt hx) _) ih
theorem lt_of_two_pow {a b : Nat} (h : 2 ^ a ≤ 2 ^ b) : a ≤ b := (Nat.pow_le_pow_iff_right (by omega)).1 h
theorem pow_lt_of {a b q : Nat} (h : a ^ q < b ^ q) : a < b := by
  rcases Nat.lt_or_ge a b with h1 | h1
  · exact h1
  · exact absurd (Nat.pow_le_pow_left h1 q) (by omega)
/-- A sum beyond the doubt shows the sign. -/
theorem sum_up {K j : Nat} {l : List (Nat × Int)} (hj : j + 1 ≤ K) (hg : goodN K l) (h : 2 * absA l < sumE K j l) : dnP l < upP l := by
  rw [absA_eq, sumE_eq] at h
  have h1 := up_lo hj hg
  have h2 := dn_hi hj hg
  have h3 : 2 ^ (dnE K j l + 2 * dnA l) < 2 ^ upE K j l := Nat.pow_lt_pow_right (by omega) (by omega)
  exact pow_lt_of (Nat.lt_of_le_of_lt h2 (Nat.lt_of_lt_of_le h3 h1))
theorem sum_dn {K j : Nat} {l : List (Nat × Int)} (hj : j + 1 ≤ K) (hg : goodN K l) (h : sumE K j l < -(2 * absA l)) : upP l < dnP l := by
  rw [absA_eq, sumE_eq] at h
  have h1 := dn_lo hj hg
  have h2 := up_hi hj hg
  have h3 : 2 ^ (upE K j l + 2 * upA l) < 2 ^ dnE K j l := Nat.pow_lt_pow_right (by omega) (by omega)
  exact pow_lt_of (Nat.lt_of_le_of_lt h2 (Nat.lt_of_lt_of_le h3 h1))
theorem sgn_up {l : List (Nat × Int)} (h : dnP l < upP l) : sgnP l = 1 := by unfold sgnP; rw [if_neg (by omega), if_pos h]
theorem sgn_dn {l : List (Nat × Int)} (h : upP l < dnP l) : sgnP l = -1 := by unfold sgnP; rw [if_neg (by omega), if_neg (by omega)]
theorem sgn_zero {l : List (Nat × Int)} (h : upP l = dnP l) : sgnP l = 0 := by unfold sgnP; rw [if_pos h]
/-! The sum gets beyond the doubt if the product is not 1. -/
theorem bern_lo (n : Nat) : ∀ k, n ^ k * (n + k) ≤ n * (n + 1) ^ k
  | 0 => by simp
  | k + 1 => by
    have ih := bern_lo n k
    rw [Nat.pow_succ, Nat.pow_succ]
    have h1 : n * (n + (k + 1)) ≤ (n + k) * (n + 1) := by
      have e1 : (n + k) * (n + 1) = n * n + n + (k * n + k) := by rw [Nat.add_mul, Nat.mul_add, Nat.mul_add, Nat.mul_one, Nat.mul_one]
      have e2 : n * (n + (k + 1)) = n * n + (k * n + n) := by rw [Nat.mul_add, Nat.mul_add, Nat.mul_one, Nat.mul_comm k n]
      rw [e1, e2]; omega
    calc n ^ k * n * (n + (k + 1)) = n ^ k * (n * (n + (k + 1))) := by rw [Nat.mul_assoc]
      _ ≤ n ^ k * ((n + k) * (n + 1)) := Nat.mul_le_mul_left _ h1
      _ = n ^ k * (n + k) * (n + 1) := by rw [Nat.mul_assoc]
      _ ≤ n * (n + 1) ^ k * (n + 1) := Nat.mul_le_mul_right _ ih
      _ = n * ((n + 1) ^ k * (n + 1)) := by rw [Nat.mul_assoc]
theorem bern_dbl {n : Nat} (hn : 0 < n) : 2 * n ^ n ≤ (n + 1) ^ n := by
  have h := bern_lo n n
  have e : n ^ n * (n + n) = n * (2 * n ^ n) := by rw [← Nat.two_mul]; ac_rfl
  rw [e] at h
  exact Nat.le_of_mul_le_mul_left h hn
theorem grow_pow {a b q t : Nat} (hb : 0 < b) (hab : b < a) (hq : b * t ≤ q) : 2 ^ t * b ^ q ≤ a ^ q := by
  obtain ⟨d, rfl⟩ : ∃ d, q = b * t + d := ⟨q - b * t, by omega⟩
  rw [Nat.pow_add, Nat.pow_add, ← Nat.mul_assoc]
  have h1 : 2 ^ t * b ^ (b * t) ≤ a ^ (b * t) := by
    rw [Nat.pow_mul, Nat.pow_mul, ← Nat.mul_pow]
    exact Nat.pow_le_pow_left (Nat.le_trans (bern_dbl hb) (Nat.pow_le_pow_left hab _)) _
  exact Nat.mul_le_mul h1 (Nat.pow_le_pow_left (Nat.le_of_lt hab) _)
theorem sum_found_up {K j : Nat} {l : List (Nat × Int)} (hj : j + 1 ≤ K) (hg : goodN K l) (h : dnP l < upP l) (hq : dnP l * (4 * (upA l + dnA l) + 1) ≤ 2 ^ j) : 2 * absA l < sumE K j l := by
  rw [absA_eq, sumE_eq]
  have h1 := grow_pow (dnP_pos hg) h hq
  have h2 := up_hi hj hg
  have h3 := dn_lo hj hg
  have h4 : 2 ^ (4 * (upA l + dnA l) + 1 + dnE K j l) ≤ 2 ^ (upE K j l + 2 * upA l) := by
    rw [Nat.pow_add]
    exact Nat.le_trans (Nat.mul_le_mul_left _ h3) (Nat.le_trans h1 h2)
  have := lt_of_two_pow h4
  omega
theorem sum_found_dn {K j : Nat} {l : List (Nat × Int)} (hj : j + 1 ≤ K) (hg : goodN K l) (h : upP l < dnP l) (hq : upP l * (4 * (upA l + dnA l) + 1) ≤ 2 ^ j) : sumE K j l < -(2 * absA l) := by
  rw [absA_eq, sumE_eq]
  have h1 := grow_pow (upP_pos hg) h hq
  have h2 := dn_hi hj hg
  have h3 := up_lo hj hg
  have h4 : 2 ^ (4 * (upA l + dnA l) + 1 + upE K j l) ≤ 2 ^ (dnE K j l + 2 * dnA l) := by
    rw [Nat.pow_add]
    exact Nat.le_trans (Nat.mul_le_mul_left _ h3) (Nat.le_trans h1 h2)
  have := lt_of_two_pow h4
  omega
end Go.Proofs.YtkoghdgfllichaaDoor
namespace Go.Proofs.YtkoghdgfllichaaDoor

/-! Whether a product is 1: numbers without common divisors. -/
/-- Two lists of powers have the same product. -/
def eqvP (l l' : List (Nat × Int)) : Prop := upP l * dnP l' = dnP l * upP l'
/-- The product of the powers with all exponents taken as positive. -/
def allP : List (Nat × Int) → Nat
  | [] => 1
  | x :: r => x.1 ^ x.2.natAbs * allP r
def posN (l : List (Nat × Int)) : Prop := ∀ x ∈ l, 1 ≤ x.1
theorem upP_pos' : ∀ {l : List (Nat × Int)}, posN l → 0 < upP l
  | [], _ => Nat.one_pos
  | x :: r, h => Nat.mul_pos (Nat.pow_pos (h x (by simp))) (upP_pos' fun y hy => h y (by simp [hy]))
theorem dnP_pos' : ∀ {l : List (Nat × Int)}, posN l → 0 < dnP l
  | [], _ => Nat.one_pos
  | x :: r, h => Nat.mul_pos (Nat.pow_pos (h x (by simp))) (dnP_pos' fun y hy => h y (by simp [hy]))
theorem allP_pos : ∀ {l : List (Nat × Int)}, posN l → 0 < allP l
  | [], _ => Nat.one_pos
  | x :: r, h => Nat.mul_pos (Nat.pow_pos (h x (by simp))) (allP_pos fun y hy => h y (by simp [hy]))
theorem upP_append : ∀ a b : List (Nat × Int), upP (a ++ b) = upP a * upP b
  | [], b => by simp [upP]
  | x :: r, b => by show x.1 ^ _ * upP (r ++ b) = x.1 ^ _ * upP r * upP b; rw [upP_append r b, Nat.mul_assoc]
theorem dnP_append : ∀ a b : List (Nat × Int), dnP (a ++ b) = dnP a * dnP b
  | [], b => by simp [dnP]
  | x :: r, b => by show x.1 ^ _ * dnP (r ++ b) = x.1 ^ _ * dnP r * dnP b; rw [dnP_append r b, Nat.mul_assoc]
theorem allP_append : ∀ a b : List (Nat × Int), allP (a ++ b) = allP a * allP b
  | [], b => by simp [allP]
  | x :: r, b => by show x.1 ^ _ * allP (r ++ b) = x.1 ^ _ * allP r * allP b; rw [allP_append r b, Nat.mul_assoc]
theorem posN_append {a b : List (Nat × Int)} : posN (a ++ b) ↔ posN a ∧ posN b := by
  unfold posN
  constructor
  · intro h; exact ⟨fun x hx => h x (by simp [hx]), fun x hx => h x (by simp [hx])⟩
  · rintro ⟨h1, h2⟩ x hx
    rcases List.mem_append.1 hx with h | h
    · exact h1 x h
    · exact h2 x h
theorem eqvP.refl (l : List (Nat × Int)) : eqvP l l := Nat.mul_comm _ _
theorem eqvP.trans {a b c : List (Nat × Int)} (hb : posN b) (h1 : eqvP a b) (h2 : eqvP b c) : eqvP a c := by
  unfold eqvP at *
  have p1 := upP_pos' hb
  have p2 := dnP_pos' hb
  have h3 : upP a * dnP b * (upP b * dnP c) = dnP a * upP b * (dnP b * upP c) := by rw [h1, h2]
  have h4 : upP a * dnP c * (dnP b * upP b) = dnP a * upP c * (dnP b * upP b) := by
    have e1 : upP a * dnP b * (upP b * dnP c) = upP a * dnP c * (dnP b * upP b) := by ac_rfl
    have e2 : dnP a * upP b * (dnP b * upP c) = dnP a * upP c * (dnP b * upP b) := by ac_rfl
    rw [← e1, ← e2]; exact h3
  exact Nat.eq_of_mul_eq_mul_right (Nat.mul_pos p2 p1) h4
theorem eqvP.sgn {a b : List (Nat × Int)} (ha : posN a) (hb : posN b) (h : eqvP a b) : sgnP a = sgnP b := by
  unfold eqvP at h
  have p1 := upP_pos' ha
  have p2 := dnP_pos' ha
  have p3 := upP_pos' hb
  have p4 := dnP_pos' hb
  rcases Nat.lt_trichotomy (upP b) (dnP b) with h1 | h1 | h1
  · rw [sgn_dn h1, sgn_dn]
    rcases Nat.lt_or_ge (upP a) (dnP a) with h2 | h2
    · exact h2
    · have h3 := Nat.mul_lt_mul_of_le_of_lt h2 h1 p1
      omega
  · rw [sgn_zero h1, sgn_zero]
    rw [h1] at h
    exact Nat.eq_of_mul_eq_mul_right p4 h
  · rw [sgn_up h1, sgn_up]
    rcases Nat.lt_or_ge (dnP a) (upP a) with h2 | h2
    · exact h2
    · have h3 := Nat.mul_lt_mul_of_le_of_lt h2 h1 p2
      omega
/-- A part of the list may be put for another one with the same product. -/
theorem eqvP.part {a a' b : List (Nat × Int)} (h : eqvP a a') : eqvP (a ++ b) (a' ++ b) := by
  unfold eqvP at *
  rw [upP_append, dnP_append, upP_append, dnP_append]
  have e1 : upP a * upP b * (dnP a' * dnP b) = upP a * dnP a' * (upP b * dnP b) := by ac_rfl
  have e2 : dnP a * dnP b * (upP a' * upP b) = dnP a * upP a' * (upP b * dnP b) := by ac_rfl
  rw [e1, e2, h]
theorem eqvP.perm {a b c : List (Nat × Int)} : eqvP (a ++ b ++ c) (b ++ (a ++ c)) := by
  unfold eqvP
  simp only [upP_append, dnP_append]
  ac_rfl
/-- The split of two powers by a common divisor. -/
theorem split_eqv (d p q : Nat) (a b : Int) : eqvP [(d * p, a), (d * q, b)] [(p, a), (q, b), (d, a + b)] := by
  unfold eqvP
  simp only [upP, dnP, Nat.mul_one, Nat.mul_pow]
  have e : d ^ a.toNat * d ^ b.toNat * d ^ (-(a + b)).toNat = d ^ (-a).toNat * d ^ (-b).toNat * d ^ (a + b).toNat := by
    rw [← Nat.pow_add, ← Nat.pow_add, ← Nat.pow_add, ← Nat.pow_add]; congr 1; omega
  have e1 : d ^ a.toNat * p ^ a.toNat * (d ^ b.toNat * q ^ b.toNat) * (p ^ (-a).toNat * (q ^ (-b).toNat * d ^ (-(a + b)).toNat)) =
      d ^ a.toNat * d ^ b.toNat * d ^ (-(a + b)).toNat * (p ^ a.toNat * q ^ b.toNat * (p ^ (-a).toNat * q ^ (-b).toNat)) := by ac_rfl
  have e2 : d ^ (-a).toNat * p ^ (-a).toNat * (d ^ (-b).toNat * q ^ (-b).toNat) * (p ^ a.toNat * (q ^ b.toNat * d ^ (a + b).toNat)) =
      d ^ (-a).toNat * d ^ (-b).toNat * d ^ (a + b).toNat * (p ^ a.toNat * q ^ b.toNat * (p ^ (-a).toNat * q ^ (-b).toNat)) := by ac_rfl
  rw [e1, e2, e]
theorem split_all {d p q : Nat} {a b : Int} (hd : 1 ≤ d) : allP [(p, a), (q, b), (d, a + b)] ≤ allP [(d * p, a), (d * q, b)] := by
  simp only [allP, Nat.mul_one, Nat.mul_pow]
  have e : d ^ (a + b).natAbs ≤ d ^ a.natAbs * d ^ b.natAbs := by
    rw [← Nat.pow_add]; exact Nat.pow_le_pow_right hd (by omega)
  have e1 : p ^ a.natAbs * (q ^ b.natAbs * d ^ (a + b).natAbs) = p ^ a.natAbs * q ^ b.natAbs * d ^ (a + b).natAbs := by ac_rfl
  have e2 : d ^ a.natAbs * p ^ a.natAbs * (d ^ b.natAbs * q ^ b.natAbs) = p ^ a.natAbs * q ^ b.natAbs * (d ^ a.natAbs * d ^ b.natAbs) := by ac_rfl
  rw [e1, e2]
  exact Nat.mul_le_mul_left _ e
theorem drop_eqv {n : Nat} {a : Int} (h : n = 1 ∨ a = 0) : eqvP [(n, a)] [] := by
  unfold eqvP
  rcases h with rfl | rfl <;> simp [upP, dnP]
theorem all_le {l : List (Nat × Int)} (hp : posN l) {x : Nat × Int} (hx : x ∈ l) : x.1 ^ x.2.natAbs ≤ allP l := by
  induction l with
  | nil => cases hx
  | cons y r ih =>
    have hr : posN r := fun z hz => hp z (by simp [hz])
    rcases List.mem_cons.1 hx with h | h
    · subst h; exact Nat.le_mul_of_pos_right _ (allP_pos hr)
    · exact Nat.le_trans (ih hr h) (Nat.le_mul_of_pos_left _ (Nat.pow_pos (hp y (by simp))))
theorem exp_le {l : List (Nat × Int)} {B : Nat} (hp : posN l) (hB : allP l ≤ 2 ^ B) {x : Nat × Int} (hx : x ∈ l) (h2 : 2 ≤ x.1) : x.2.natAbs ≤ B := by
  have h1 := Nat.le_trans (all_le hp hx) hB
  exact lt_of_two_pow (Nat.le_trans (Nat.pow_le_pow_left h2 _) h1)
/-- Numbers above 1 without common divisors, with exponents that are not 0. -/
structure Apart (l : List (Nat × Int)) : Prop where
  big : ∀ x ∈ l, 2 ≤ x.1 ∧ x.2 ≠ 0
  cop : l.Pairwise fun x y => Nat.gcd x.1 y.1 = 1
theorem cop_up {n : Nat} : ∀ {l : List (Nat × Int)}, (∀ y ∈ l, Nat.Coprime n y.1) → Nat.Coprime n (upP l)
  | [], _ => Nat.coprime_one_right n
  | y :: r, h => Nat.Coprime.mul_right ((h y (by simp)).pow_right _) (cop_up fun z hz => h z (by simp [hz]))
theorem cop_dn {n : Nat} : ∀ {l : List (Nat × Int)}, (∀ y ∈ l, Nat.Coprime n y.1) → Nat.Coprime n (dnP l)
  | [], _ => Nat.coprime_one_right n
  | y :: r, h => Nat.Coprime.mul_right ((h y (by simp)).pow_right _) (cop_dn fun z hz => h z (by simp [hz]))
theorem cop_both : ∀ {l : List (Nat × Int)}, l.Pairwise (fun x y => Nat.gcd x.1 y.1 = 1) → Nat.Coprime (upP l) (dnP l)
  | [], _ => Nat.coprime_one_right 1
  | x :: r, h => by
    obtain ⟨h1, h2⟩ := List.pairwise_cons.1 h
    have ih := cop_both h2
    show Nat.Coprime (x.1 ^ x.2.toNat * upP r) (x.1 ^ (-x.2).toNat * dnP r)
    have c1 : Nat.Coprime x.1 (upP r) := cop_up fun y hy => h1 y hy
    have c2 : Nat.Coprime x.1 (dnP r) := cop_dn fun y hy => h1 y hy
    refine Nat.Coprime.mul_left (Nat.Coprime.mul_right ?_ (c2.pow_left _)) (Nat.Coprime.mul_right ((c1.pow_left _).symm) ih)
    rcases Int.le_total 0 x.2 with h0 | h0
    · rw [show (-x.2).toNat = 0 by omega, Nat.pow_zero]; exact Nat.coprime_one_right _
    · rw [show x.2.toNat = 0 by omega, Nat.pow_zero]; exact Nat.coprime_one_left _
theorem apart_one {l : List (Nat × Int)} (h : Apart l) : sgnP l = 0 ↔ l = [] := by
  constructor
  · intro hs
    rcases l with _ | ⟨x, r⟩
    · rfl
    · exfalso
      have e : upP (x :: r) = dnP (x :: r) := by
        rcases Nat.lt_trichotomy (upP (x :: r)) (dnP (x :: r)) with h1 | h1 | h1
        · rw [sgn_dn h1] at hs; cases hs
        · exact h1
        · rw [sgn_up h1] at hs; cases hs
      have hc := cop_both h.cop
      rw [← e] at hc
      have h1 : upP (x :: r) = 1 := by
        have := Nat.coprime_self (upP (x :: r)) |>.1 hc
        exact this
      rw [h1] at e
      obtain ⟨hb, hn⟩ := h.big x (by simp)
      have hu : x.1 ^ x.2.toNat ≤ 1 := by
        rw [← h1]
        exact Nat.le_mul_of_pos_right _ (upP_pos' fun y hy => by have := (h.big y (by simp [hy])).1; omega)
      have hd : x.1 ^ (-x.2).toNat ≤ 1 := by
        rw [e]
        exact Nat.le_mul_of_pos_right _ (dnP_pos' fun y hy => by have := (h.big y (by simp [hy])).1; omega)
      have k1 : ∀ k, x.1 ^ k ≤ 1 → k = 0 := by
        intro k hk
        rcases Nat.eq_zero_or_pos k with h | h
        · exact h
        · have : x.1 ^ 1 ≤ x.1 ^ k := Nat.pow_le_pow_right (by omega) h
          rw [Nat.pow_one] at this; omega
      have := k1 _ hu
      have := k1 _ hd
      omega
  · rintro rfl; rfl
/-! How often a split can be. -/
def allN : List (Nat × Int) → Nat
  | [] => 1
  | x :: r => x.1 * allN r
theorem allN_append : ∀ a b : List (Nat × Int), allN (a ++ b) = allN a * allN b
  | [], b => by simp [allN]
  | x :: r, b => by show x.1 * allN (r ++ b) = x.1 * allN r * allN b; rw [allN_append r b, Nat.mul_assoc]
theorem allN_pos : ∀ {l : List (Nat × Int)}, posN l → 0 < allN l
  | [], _ => Nat.one_pos
  | x :: r, h => Nat.mul_pos (h x (by simp)) (allN_pos fun y hy => h y (by simp [hy]))
end Go.Proofs.YtkoghdgfllichaaDoor
namespace Go.Proofs.YtkoghdgfllichaaDoor

/-! Where the sign turns: floors. -/
theorem upP_snoc (l : List (Nat × Int)) (n : Nat) (a : Int) : upP (l ++ [(n, a)]) = upP l * n ^ a.toNat := by rw [upP_append]; simp [upP]
theorem dnP_snoc (l : List (Nat × Int)) (n : Nat) (a : Int) : dnP (l ++ [(n, a)]) = dnP l * n ^ (-a).toNat := by rw [dnP_append]; simp [dnP]
theorem sgn_ge {l : List (Nat × Int)} : 0 ≤ sgnP l ↔ dnP l ≤ upP l := by
  unfold sgnP
  by_cases h1 : upP l = dnP l
  · rw [if_pos h1, h1]; simp
  · rw [if_neg h1]
    by_cases h2 : dnP l < upP l
    · rw [if_pos h2]; omega
    · rw [if_neg h2]; omega
theorem sgn_lt {l : List (Nat × Int)} : sgnP l < 0 ↔ upP l < dnP l := by
  have := sgn_ge (l := l); omega
theorem sgn_eq {l : List (Nat × Int)} : sgnP l = 0 ↔ upP l = dnP l := by
  unfold sgnP
  by_cases h1 : upP l = dnP l
  · rw [if_pos h1]; exact ⟨fun _ => h1, fun _ => rfl⟩
  · rw [if_neg h1]
    by_cases h2 : dnP l < upP l
    · rw [if_pos h2]; exact ⟨fun h => by omega, fun h => by omega⟩
    · rw [if_neg h2]; exact ⟨fun h => by omega, fun h => by omega⟩
/-- A greater power of 2 makes the quotient less. -/
theorem floor_anti {l : List (Nat × Int)} {a b : Int} (h : a ≤ b) (hb : 0 ≤ sgnP (l ++ [(2, -b)])) : 0 ≤ sgnP (l ++ [(2, -a)]) := by
  rw [sgn_ge] at *
  rw [upP_snoc, dnP_snoc] at *
  have h1 : 2 ^ (- -a).toNat ≤ 2 ^ (- -b).toNat := Nat.pow_le_pow_right (by omega) (by omega)
  have h2 : 2 ^ (-b).toNat ≤ 2 ^ (-a).toNat := Nat.pow_le_pow_right (by omega) (by omega)
  exact Nat.le_trans (Nat.mul_le_mul_left _ h1) (Nat.le_trans hb (Nat.mul_le_mul_left _ h2))
/-- The place where the sign turns is one. -/
theorem floor_one {f : Int → Int} (hf : ∀ a b, a ≤ b → 0 ≤ f b → 0 ≤ f a) {m k : Int} (h1 : 0 ≤ f m) (h2 : f (m + 1) < 0) (h3 : 0 ≤ f k) (h4 : f (k + 1) < 0) : m = k := by
  rcases Int.lt_trichotomy m k with h | h | h
  · have := hf (m + 1) k (by omega) h3; omega
  · exact h
  · have := hf (k + 1) m (by omega) h1; omega
/-- The fifth in parts of an octave. -/
def fifthL (k : Nat) : List (Nat × Int) := [(2, -(k : Int)), (3, (k : Int))]
theorem fifth_up (k m : Nat) : upP (fifthL k ++ [(2, -(m : Int))]) = 3 ^ k := by
  rw [upP_snoc]
  unfold fifthL
  simp only [upP]
  rw [show (-(k : Int)).toNat = 0 by omega, show ((k : Int)).toNat = k by omega, show (-(m : Int)).toNat = 0 by omega, Nat.pow_zero, Nat.mul_one, Nat.mul_one, Nat.one_mul]
theorem fifth_dn (k m : Nat) : dnP (fifthL k ++ [(2, -(m : Int))]) = 2 ^ (k + m) := by
  rw [dnP_snoc]
  unfold fifthL
  simp only [dnP]
  rw [show (- -(k : Int)).toNat = k by omega, show (-(k : Int)).toNat = 0 by omega, show (- -(m : Int)).toNat = m by omega, Nat.pow_zero, Nat.mul_one, Nat.pow_add]
theorem fifth_lo : 2 ^ (1200000 + 701955) < 3 ^ 1200000 := by decide +kernel
theorem fifth_hi : 3 ^ 1200000 < 2 ^ (1200000 + 701956) := by decide +kernel
theorem fifth_at {k m : Nat} (hk : k = 1200000) (hm : m = 701955) : sgnP (fifthL k ++ [(2, -(m : Int))]) = 1 := by
  apply sgn_up
  rw [fifth_up, fifth_dn, hk, hm]
  exact fifth_lo
theorem fifth_next {k m : Nat} (hk : k = 1200000) (hm : m = 701956) : sgnP (fifthL k ++ [(2, -(m : Int))]) = -1 := by
  apply sgn_dn
  rw [fifth_up, fifth_dn, hk, hm]
  exact fifth_hi
end Go.Proofs.YtkoghdgfllichaaDoor
namespace Go.Proofs.YtkoghdgfllichaaDoor

/-! The loop of isOne: R: what is still to be looked at (the last one next), A: what lies apart. -/
structure OneRel (l : List (Nat × Int)) (B K : Nat) (R A : List (Nat × Int)) : Prop where
  pos : posN (R ++ A)
  eqv : eqvP (R ++ A) l
  all : allP (R ++ A) ≤ 2 ^ B
  exp : ∀ x ∈ R ++ A, x.2.natAbs ≤ B
  apart : Apart A
  few : 2 ^ (R.length + A.length) * allN (R ++ A) ≤ 2 ^ K
theorem OneRel.len {l : List (Nat × Int)} {B K : Nat} {R A : List (Nat × Int)} (h : OneRel l B K R A) : R.length + A.length ≤ K := by
  have h1 := h.few
  have h2 := allN_pos h.pos
  have h3 : 2 ^ (R.length + A.length) * 1 ≤ 2 ^ (R.length + A.length) * allN (R ++ A) := Nat.mul_le_mul_left _ h2
  rw [Nat.mul_one] at h3
  exact lt_of_two_pow (Nat.le_trans h3 h1)
def oneM (K : Nat) (R A : List (Nat × Int)) : Nat := allN (R ++ A) * (K + 1) + R.length
theorem Apart.nil : Apart [] := ⟨fun x h => (by cases h), List.Pairwise.nil⟩
theorem OneRel.start {l : List (Nat × Int)} {B K : Nat} (hp : posN l) (ha : allP l ≤ 2 ^ B) (he : ∀ x ∈ l, x.2.natAbs ≤ B) (hf : 2 ^ l.length * allN l ≤ 2 ^ K) : OneRel l B K l [] := by
  refine ⟨?_, ?_, ?_, ?_, Apart.nil, ?_⟩ <;> rw [List.append_nil]
  · exact hp
  · exact eqvP.refl l
  · exact ha
  · exact he
  · exact hf
theorem OneRel.done {l : List (Nat × Int)} {B K : Nat} {A : List (Nat × Int)} (hl : posN l) (h : OneRel l B K [] A) : sgnP l = 0 ↔ A = [] := by
  have e := h.eqv
  have p := h.pos
  rw [List.nil_append] at e p
  rw [← e.sgn p hl]
  exact apart_one h.apart
/-- What counts of both lists together does not depend on the order. -/
theorem eqvP.swap {R S A C : List (Nat × Int)} (hu : upP (R ++ A) = upP (S ++ C)) (hd : dnP (R ++ A) = dnP (S ++ C)) {l : List (Nat × Int)} (h : eqvP (R ++ A) l) : eqvP (S ++ C) l := by
  unfold eqvP at *
  rw [← hu, ← hd]; exact h
theorem OneRel.drop {l : List (Nat × Int)} {B K : Nat} {R A : List (Nat × Int)} {n : Nat} {a : Int} (h : OneRel l B K (R ++ [(n, a)]) A) (hd : n = 1 ∨ a = 0) : OneRel l B K R A ∧ oneM K R A < oneM K (R ++ [(n, a)]) A := by
  have hn : 1 ≤ n := h.pos (n, a) (by simp)
  have hp : posN (R ++ A) := fun x hx => h.pos x (by
    rcases List.mem_append.1 hx with h | h
    · simp [h]
    · simp [h])
  have hN : allN (R ++ [(n, a)] ++ A) = n * allN (R ++ A) := by
    rw [allN_append, allN_append, allN_append]
    simp only [allN, Nat.mul_one]
    ac_rfl
  have hA : allP (R ++ [(n, a)] ++ A) = n ^ a.natAbs * allP (R ++ A) := by
    rw [allP_append, allP_append, allP_append]
    simp only [allP, Nat.mul_one]
    ac_rfl
  have hU : upP (R ++ [(n, a)] ++ A) = n ^ a.toNat * upP (R ++ A) := by
    rw [upP_append, upP_append, upP_append]
    simp only [upP, Nat.mul_one]
    ac_rfl
  have hD : dnP (R ++ [(n, a)] ++ A) = n ^ (-a).toNat * dnP (R ++ A) := by
    rw [dnP_append, dnP_append, dnP_append]
    simp only [dnP, Nat.mul_one]
    ac_rfl
  have h1 : n ^ a.toNat = 1 ∧ n ^ (-a).toNat = 1 := by
    rcases hd with rfl | rfl
    · exact ⟨Nat.one_pow _, Nat.one_pow _⟩
    · exact ⟨rfl, rfl⟩
  have hge : allN (R ++ A) ≤ n * allN (R ++ A) := Nat.le_mul_of_pos_left _ hn
  refine ⟨⟨hp, ?_, ?_, ?_, h.apart, ?_⟩, ?_⟩
  · have e := h.eqv
    unfold eqvP at *
    rw [hU, hD, h1.1, h1.2, Nat.one_mul, Nat.one_mul] at e
    exact e
  · have e := h.all
    rw [hA] at e
    exact Nat.le_trans (Nat.le_mul_of_pos_left _ (Nat.pow_pos hn)) e
  · intro x hx
    exact h.exp x (by
      rcases List.mem_append.1 hx with h | h
      · simp [h]
      · simp [h])
  · have e := h.few
    rw [hN, List.length_append, List.length_singleton] at e
    refine Nat.le_trans (Nat.mul_le_mul (Nat.pow_le_pow_right (by omega) (by omega)) hge) e
  · unfold oneM
    rw [hN, List.length_append, List.length_singleton]
    have := Nat.mul_le_mul_right (K + 1) hge
    omega
theorem OneRel.move {l : List (Nat × Int)} {B K : Nat} {R A : List (Nat × Int)} {n : Nat} {a : Int} (h : OneRel l B K (R ++ [(n, a)]) A) (hn : 2 ≤ n) (ha : a ≠ 0) (hc : ∀ y ∈ A, Nat.gcd n y.1 = 1) :
    OneRel l B K R (A ++ [(n, a)]) ∧ oneM K R (A ++ [(n, a)]) < oneM K (R ++ [(n, a)]) A := by
  have hmem : ∀ x, x ∈ R ++ (A ++ [(n, a)]) ↔ x ∈ R ++ [(n, a)] ++ A := by
    intro x; simp only [List.mem_append]; grind
  have hN : allN (R ++ (A ++ [(n, a)])) = allN (R ++ [(n, a)] ++ A) := by simp only [allN_append]; ac_rfl
  have hA : allP (R ++ (A ++ [(n, a)])) = allP (R ++ [(n, a)] ++ A) := by simp only [allP_append]; ac_rfl
  have hU : upP (R ++ [(n, a)] ++ A) = upP (R ++ (A ++ [(n, a)])) := by simp only [upP_append]; ac_rfl
  have hD : dnP (R ++ [(n, a)] ++ A) = dnP (R ++ (A ++ [(n, a)])) := by simp only [dnP_append]; ac_rfl
  refine ⟨⟨fun x hx => h.pos x ((hmem x).1 hx), eqvP.swap hU hD h.eqv, by rw [hA]; exact h.all, fun x hx => h.exp x ((hmem x).1 hx), ⟨?_, ?_⟩, ?_⟩, ?_⟩
  · intro x hx
    rcases List.mem_append.1 hx with h1 | h1
    · exact h.apart.big x h1
    · rw [List.mem_singleton] at h1
      subst h1
      exact ⟨hn, ha⟩
  · rw [List.pairwise_append]
    refine ⟨h.apart.cop, List.pairwise_singleton _ _, fun x hx y hy => ?_⟩
    rw [List.mem_singleton] at hy
    subst hy
    rw [Nat.gcd_comm]; exact hc x hx
  · have e := h.few
    rw [List.length_append, List.length_singleton] at e
    rw [hN, List.length_append, List.length_singleton]
    rw [show R.length + (A.length + 1) = R.length + 1 + A.length by omega]
    exact e
  · unfold oneM
    rw [hN, List.length_append, List.length_singleton]
    omega
theorem OneRel.split {l : List (Nat × Int)} {B K : Nat} {R A1 A2 : List (Nat × Int)} {n m d : Nat} {a b : Int} (h : OneRel l B K (R ++ [(n, a)]) (A1 ++ (m, b) :: A2)) (hd : d = Nat.gcd n m) (h2 : 2 ≤ d) :
    OneRel l B K (R ++ [(n / d, a), (m / d, b), (d, a + b)]) (A1 ++ A2) ∧ oneM K (R ++ [(n / d, a), (m / d, b), (d, a + b)]) (A1 ++ A2) < oneM K (R ++ [(n, a)]) (A1 ++ (m, b) :: A2) := by
  have hn : 1 ≤ n := h.pos (n, a) (by simp)
  have hm : 1 ≤ m := h.pos (m, b) (by simp)
  obtain ⟨p, hp⟩ : ∃ p, n = d * p := by rw [hd]; exact Nat.gcd_dvd_left n m
  obtain ⟨q, hq⟩ : ∃ q, m = d * q := by rw [hd]; exact Nat.gcd_dvd_right n m
  have hdp : 0 < d := by omega
  have e1 : n / d = p := by rw [hp, Nat.mul_div_cancel_left _ hdp]
  have e2 : m / d = q := by rw [hq, Nat.mul_div_cancel_left _ hdp]
  have hp1 : 1 ≤ p := by
    rcases Nat.eq_zero_or_pos p with h | h
    · rw [h] at hp; omega
    · exact h
  have hq1 : 1 ≤ q := by
    rcases Nat.eq_zero_or_pos q with h | h
    · rw [h] at hq; omega
    · exact h
  rw [e1, e2]
  clear e1 e2 hd
  subst hp hq
  have hexp1 := h.exp (d * p, a) (by simp)
  have hexp2 := h.exp (d * q, b) (by simp)
  have hpos' : posN (R ++ [(p, a), (q, b), (d, a + b)] ++ (A1 ++ A2)) := by
    intro x hx
    simp only [List.mem_append, List.mem_cons, List.not_mem_nil, or_false] at hx
    rcases hx with (h1 | rfl | rfl | rfl) | h1 | h1
    · exact h.pos x (by simp [h1])
    · exact hp1
    · exact hq1
    · exact hdp
    · exact h.pos x (by simp [h1])
    · exact h.pos x (by simp [h1])
  have hA : allP (R ++ [(p, a), (q, b), (d, a + b)] ++ (A1 ++ A2)) ≤ allP (R ++ [(d * p, a)] ++ (A1 ++ (d * q, b) :: A2)) := by
    have e1 : allP (R ++ [(p, a), (q, b), (d, a + b)] ++ (A1 ++ A2)) = allP [(p, a), (q, b), (d, a + b)] * (allP R * allP A1 * allP A2) := by simp only [allP_append]; ac_rfl
    have e2 : allP (R ++ [(d * p, a)] ++ (A1 ++ (d * q, b) :: A2)) = allP [(d * p, a), (d * q, b)] * (allP R * allP A1 * allP A2) := by
      rw [show (d * q, b) :: A2 = [(d * q, b)] ++ A2 from rfl, show [(d * p, a), (d * q, b)] = [(d * p, a)] ++ [(d * q, b)] from rfl]
      simp only [allP_append]; ac_rfl
    rw [e1, e2]
    exact Nat.mul_le_mul_right _ (split_all (by omega))
  have hN : 2 * allN (R ++ [(p, a), (q, b), (d, a + b)] ++ (A1 ++ A2)) ≤ allN (R ++ [(d * p, a)] ++ (A1 ++ (d * q, b) :: A2)) := by
    have e1 : allN (R ++ [(p, a), (q, b), (d, a + b)] ++ (A1 ++ A2)) = d * (p * q * (allN R * allN A1 * allN A2)) := by simp only [allN_append, allN, Nat.mul_one]; ac_rfl
    have e2 : allN (R ++ [(d * p, a)] ++ (A1 ++ (d * q, b) :: A2)) = d * (d * (p * q * (allN R * allN A1 * allN A2))) := by simp only [allN_append, allN, Nat.mul_one]; ac_rfl
    rw [e1, e2]
    exact Nat.mul_le_mul_right _ h2
  have hall := Nat.le_trans hA h.all
  have hNpos := allN_pos hpos'
  have hfew : 2 ^ ((R ++ [(p, a), (q, b), (d, a + b)]).length + (A1 ++ A2).length) * allN (R ++ [(p, a), (q, b), (d, a + b)] ++ (A1 ++ A2)) ≤ 2 ^ K := by
    have e := h.few
    have el : (R ++ [(p, a), (q, b), (d, a + b)]).length + (A1 ++ A2).length = (R ++ [(d * p, a)]).length + (A1 ++ (d * q, b) :: A2).length + 1 := by simp; omega
    rw [el, Nat.pow_succ, Nat.mul_assoc]
    exact Nat.le_trans (Nat.mul_le_mul_left _ hN) e
  have hrel : OneRel l B K (R ++ [(p, a), (q, b), (d, a + b)]) (A1 ++ A2) := by
    refine ⟨hpos', ?_, hall, ?_, ⟨fun x hx => h.apart.big x (by rcases List.mem_append.1 hx with h | h <;> simp [h]), ?_⟩, hfew⟩
    · have hs := split_eqv d p q a b
      have e := h.eqv
      refine eqvP.trans (b := R ++ [(d * p, a)] ++ (A1 ++ (d * q, b) :: A2)) h.pos ?_ e
      unfold eqvP at *
      have u1 : upP (R ++ [(p, a), (q, b), (d, a + b)] ++ (A1 ++ A2)) = upP [(p, a), (q, b), (d, a + b)] * (upP R * upP A1 * upP A2) := by simp only [upP_append]; ac_rfl
      have u2 : dnP (R ++ [(p, a), (q, b), (d, a + b)] ++ (A1 ++ A2)) = dnP [(p, a), (q, b), (d, a + b)] * (dnP R * dnP A1 * dnP A2) := by simp only [dnP_append]; ac_rfl
      have u3 : upP (R ++ [(d * p, a)] ++ (A1 ++ (d * q, b) :: A2)) = upP [(d * p, a), (d * q, b)] * (upP R * upP A1 * upP A2) := by
        rw [show (d * q, b) :: A2 = [(d * q, b)] ++ A2 from rfl, show [(d * p, a), (d * q, b)] = [(d * p, a)] ++ [(d * q, b)] from rfl]
        simp only [upP_append]; ac_rfl
      have u4 : dnP (R ++ [(d * p, a)] ++ (A1 ++ (d * q, b) :: A2)) = dnP [(d * p, a), (d * q, b)] * (dnP R * dnP A1 * dnP A2) := by
        rw [show (d * q, b) :: A2 = [(d * q, b)] ++ A2 from rfl, show [(d * p, a), (d * q, b)] = [(d * p, a)] ++ [(d * q, b)] from rfl]
        simp only [dnP_append]; ac_rfl
      rw [u1, u2, u3, u4]
      generalize upP R * upP A1 * upP A2 = X
      generalize dnP R * dnP A1 * dnP A2 = Y
      have f1 : upP [(p, a), (q, b), (d, a + b)] * X * (dnP [(d * p, a), (d * q, b)] * Y) = dnP [(d * p, a), (d * q, b)] * upP [(p, a), (q, b), (d, a + b)] * (X * Y) := by ac_rfl
      have f2 : dnP [(p, a), (q, b), (d, a + b)] * Y * (upP [(d * p, a), (d * q, b)] * X) = upP [(d * p, a), (d * q, b)] * dnP [(p, a), (q, b), (d, a + b)] * (X * Y) := by ac_rfl
      rw [f1, f2, hs]
    · intro x hx
      have hx0 := hx
      simp only [List.mem_append, List.mem_cons, List.not_mem_nil, or_false] at hx
      rcases hx with (h1 | rfl | rfl | rfl) | h1 | h1
      · exact h.exp x (by simp [h1])
      · exact hexp1
      · exact hexp2
      · exact exp_le hpos' hall hx0 h2
      · exact h.exp x (by simp [h1])
      · exact h.exp x (by simp [h1])
    · have hc := h.apart.cop
      rw [List.pairwise_append] at hc ⊢
      obtain ⟨c1, c2, c3⟩ := hc
      exact ⟨c1, (List.pairwise_cons.1 c2).2, fun x hx y hy => c3 x hx y (by simp [hy])⟩
  refine ⟨hrel, ?_⟩
  have hlen := hrel.len
  have hlen' : (R ++ [(p, a), (q, b), (d, a + b)]).length ≤ K := by omega
  unfold oneM
  generalize allN (R ++ [(p, a), (q, b), (d, a + b)] ++ (A1 ++ A2)) = x at *
  generalize allN (R ++ [(d * p, a)] ++ (A1 ++ (d * q, b) :: A2)) = y at *
  generalize (R ++ [(p, a), (q, b), (d, a + b)]).length = r at *
  have h3 : (x + 1) * (K + 1) ≤ y * (K + 1) := Nat.mul_le_mul_right _ (by omega)
  rw [Nat.add_mul] at h3
  omega
end Go.Proofs.YtkoghdgfllichaaDoor
namespace Go.Proofs.YtkoghdgfllichaaDoor

/-! What estimate finds. -/
def bitS (K j : Nat) : List (Nat × Int) → Int
  | [] => 0
  | x :: r => (if sqB (2 ^ K) (tmM K x.1 j) then x.2 else 0) + bitS K j r
theorem sumE_succ (K j : Nat) : ∀ l, sumE K (j + 1) l = 2 * sumE K j l + bitS K j l
  | [] => rfl
  | x :: r => by
    show x.2 * (tmE K x.1 (j + 1) : Int) + sumE K (j + 1) r = 2 * (x.2 * (tmE K x.1 j : Int) + sumE K j r) + ((if sqB (2 ^ K) (tmM K x.1 j) then x.2 else 0) + bitS K j r)
    rw [sumE_succ K j r]
    have e : tmE K x.1 (j + 1) = 2 * tmE K x.1 j + (if sqB (2 ^ K) (tmM K x.1 j) then 1 else 0) := rfl
    rw [e]
    by_cases hb : sqB (2 ^ K) (tmM K x.1 j) = true
    · rw [if_pos hb, if_pos hb, Int.natCast_add, Int.natCast_mul, Int.mul_add]
      have : x.2 * (((2 : Nat) : Int) * (tmE K x.1 j : Int)) = 2 * (x.2 * (tmE K x.1 j : Int)) := by
        rw [show (((2 : Nat) : Int)) = 2 from rfl, ← Int.mul_assoc, Int.mul_comm x.2 2, Int.mul_assoc]
      rw [this]
      simp only [Int.natCast_one, Int.mul_one]
      omega
    · rw [if_neg hb, if_neg hb, Nat.add_zero, Int.natCast_mul]
      have : x.2 * (((2 : Nat) : Int) * (tmE K x.1 j : Int)) = 2 * (x.2 * (tmE K x.1 j : Int)) := by
        rw [show (((2 : Nat) : Int)) = 2 from rfl, ← Int.mul_assoc, Int.mul_comm x.2 2, Int.mul_assoc]
      rw [this]
      omega
theorem absA_nonneg : ∀ l, 0 ≤ absA l
  | [] => Int.le_refl 0
  | x :: r => by
    have := absA_nonneg r
    show 0 ≤ max x.2 (-x.2) + absA r
    omega
theorem absA_append : ∀ a b, absA (a ++ b) = absA a + absA b
  | [], b => by simp [absA]
  | x :: r, b => by show max x.2 (-x.2) + absA (r ++ b) = max x.2 (-x.2) + absA r + absA b; rw [absA_append r b]; omega
theorem bitS_append (K j : Nat) : ∀ a b, bitS K j (a ++ b) = bitS K j a + bitS K j b
  | [], b => by simp [bitS]
  | x :: r, b => by show _ + bitS K j (r ++ b) = _ + bitS K j r + bitS K j b; rw [bitS_append K j r b]; omega
theorem sumE_append (K j : Nat) : ∀ a b, sumE K j (a ++ b) = sumE K j a + sumE K j b
  | [], b => by simp [sumE]
  | x :: r, b => by show _ + sumE K j (r ++ b) = _ + sumE K j r + sumE K j b; rw [sumE_append K j r b]; omega
theorem bitS_le (K j : Nat) : ∀ l, -absA l ≤ bitS K j l ∧ bitS K j l ≤ absA l
  | [] => ⟨Int.le_refl 0, Int.le_refl 0⟩
  | x :: r => by
    have := bitS_le K j r
    show -(max x.2 (-x.2) + absA r) ≤ (if _ then x.2 else 0) + bitS K j r ∧ (if _ then x.2 else 0) + bitS K j r ≤ max x.2 (-x.2) + absA r
    split <;> omega
theorem absA_take (l : List (Nat × Int)) (i : Nat) : absA (l.take i) ≤ absA l := by
  have h := absA_append (l.take i) (l.drop i)
  rw [List.take_append_drop] at h
  have := absA_nonneg (l.drop i)
  omega
/-- The sum while a round goes on stays in its bounds. -/
theorem round_le {K j i : Nat} {l : List (Nat × Int)} (h1 : -(2 * absA l) ≤ sumE K j l) (h2 : sumE K j l ≤ 2 * absA l) :
    -(5 * absA l) ≤ 2 * sumE K j l + bitS K j (l.take i) ∧ 2 * sumE K j l + bitS K j (l.take i) ≤ 5 * absA l := by
  have h3 := bitS_le K j (l.take i)
  have h4 := absA_take l i
  omega
def EstPost (W : Nat) (l : List (Nat × Int)) (r : Int) : Prop :=
  (r = 1 ∧ ∃ j, j + 2 ≤ 64 * W ∧ 2 * absA l < sumE (64 * W - 1) j l) ∨ (r = -1 ∧ ∃ j, j + 2 ≤ 64 * W ∧ sumE (64 * W - 1) j l < -(2 * absA l)) ∨
  (r = 0 ∧ ∀ j, j + 2 ≤ 64 * W → -(2 * absA l) ≤ sumE (64 * W - 1) j l ∧ sumE (64 * W - 1) j l ≤ 2 * absA l)
theorem est_sound {W : Nat} {l : List (Nat × Int)} {r : Int} (hg : goodN (64 * W - 1) l) (h : EstPost W l r) (h0 : r ≠ 0) : r = sgnP l := by
  rcases h with ⟨rfl, j, hj, h⟩ | ⟨rfl, j, hj, h⟩ | ⟨rfl, -⟩
  · exact (sgn_up (sum_up (by omega) hg h)).symm
  · exact (sgn_dn (sum_dn (by omega) hg h)).symm
  · exact absurd rfl h0
/-- With words enough the sign is found. -/
theorem est_total {W : Nat} {l : List (Nat × Int)} {r : Int} (hW : 1 ≤ W) (hg : goodN (64 * W - 1) l) (h : EstPost W l r) (hs : sgnP l ≠ 0) (hq : min (upP l) (dnP l) * (4 * (upA l + dnA l) + 1) ≤ 2 ^ (64 * W - 2)) : r ≠ 0 := by
  rintro rfl
  rcases h with ⟨h, -⟩ | ⟨h, -⟩ | ⟨-, h⟩
  · cases h
  · cases h
  · obtain ⟨h1, h2⟩ := h (64 * W - 2) (by omega)
    rcases Nat.lt_trichotomy (upP l) (dnP l) with h3 | h3 | h3
    · rw [Nat.min_eq_left (Nat.le_of_lt h3)] at hq
      have := sum_found_dn (K := 64 * W - 1) (j := 64 * W - 2) (by omega) hg h3 hq
      omega
    · exact hs (sgn_zero h3)
    · rw [Nat.min_eq_right (Nat.le_of_lt h3)] at hq
      have := sum_found_up (K := 64 * W - 1) (j := 64 * W - 2) (by omega) hg h3 hq
      omega
theorem est_zero {W : Nat} {l : List (Nat × Int)} {r : Int} (hg : goodN (64 * W - 1) l) (h : EstPost W l r) (hs : sgnP l = 0) : r = 0 := by
  by_cases h0 : r = 0
  · exact h0
  · rw [est_sound hg h h0]; exact hs
end Go.Proofs.YtkoghdgfllichaaDoor
namespace Go.Proofs.YtkoghdgfllichaaDoor

/-! Lists of powers whose sign can be found within the machine's numbers. -/
def wA : List (Nat × Int) → Nat
  | [] => 0
  | x :: r => x.2.natAbs * Nat.log2 x.1 + wA r
def nA : List (Nat × Int) → Nat
  | [] => 0
  | x :: r => x.2.natAbs + nA r
theorem absA_nA : ∀ l, absA l = (nA l : Int)
  | [] => rfl
  | x :: r => by show max x.2 (-x.2) + absA r = ((x.2.natAbs + nA r : Nat) : Int); rw [absA_nA r]; omega
theorem nA_parts : ∀ l, upA l + dnA l = nA l
  | [] => rfl
  | x :: r => by
    have := nA_parts r
    show x.2.toNat + upA r + ((-x.2).toNat + dnA r) = x.2.natAbs + nA r
    omega
theorem allP_le : ∀ {l : List (Nat × Int)}, posN l → allP l ≤ 2 ^ (wA l + nA l)
  | [], _ => Nat.le_refl 1
  | x :: r, h => by
    have ih := allP_le (l := r) fun y hy => h y (by simp [hy])
    have hx : x.1 ≤ 2 ^ (Nat.log2 x.1 + 1) := Nat.le_of_lt Nat.lt_log2_self
    show x.1 ^ x.2.natAbs * allP r ≤ 2 ^ (x.2.natAbs * Nat.log2 x.1 + wA r + (x.2.natAbs + nA r))
    have e : x.2.natAbs * Nat.log2 x.1 + wA r + (x.2.natAbs + nA r) = (Nat.log2 x.1 + 1) * x.2.natAbs + (wA r + nA r) := by
      rw [Nat.add_mul, Nat.mul_comm x.2.natAbs]; omega
    rw [e, Nat.pow_add, Nat.pow_mul]
    exact Nat.mul_le_mul (Nat.pow_le_pow_left hx _) ih
theorem allP_parts : ∀ l, upP l * dnP l = allP l
  | [] => rfl
  | x :: r => by
    have ih := allP_parts r
    show x.1 ^ x.2.toNat * upP r * (x.1 ^ (-x.2).toNat * dnP r) = x.1 ^ x.2.natAbs * allP r
    rw [← ih]
    have e : x.1 ^ x.2.natAbs = x.1 ^ x.2.toNat * x.1 ^ (-x.2).toNat := by rw [← Nat.pow_add]; congr 1; omega
    rw [e]; ac_rfl
theorem min_le_all {l : List (Nat × Int)} (hp : posN l) : min (upP l) (dnP l) ≤ allP l := by
  rw [← allP_parts]
  exact Nat.le_trans (Nat.min_le_left _ _) (Nat.le_mul_of_pos_right _ (dnP_pos' hp))
theorem sum0_le (K : Nat) : ∀ (l : List (Nat × Int)) (i : Nat), -(wA l : Int) ≤ sumE K 0 (l.take i) ∧ sumE K 0 (l.take i) ≤ (wA l : Int)
  | [], i => by rw [List.take_nil]; exact ⟨Int.le_refl 0, Int.le_refl 0⟩
  | x :: r, 0 => by
    rw [List.take_zero]
    show -(wA (x :: r) : Int) ≤ 0 ∧ 0 ≤ (wA (x :: r) : Int)
    omega
  | x :: r, i + 1 => by
    have ih := sum0_le K r i
    rw [List.take_succ_cons]
    show -((x.2.natAbs * Nat.log2 x.1 + wA r : Nat) : Int) ≤ x.2 * (Nat.log2 x.1 : Int) + sumE K 0 (r.take i) ∧ x.2 * (Nat.log2 x.1 : Int) + sumE K 0 (r.take i) ≤ ((x.2.natAbs * Nat.log2 x.1 + wA r : Nat) : Int)
    have h1 : x.2 * (Nat.log2 x.1 : Int) ≤ ((x.2.natAbs * Nat.log2 x.1 : Nat) : Int) := by
      rw [Int.natCast_mul]
      exact Int.mul_le_mul_of_nonneg_right (by omega) (by omega)
    have h2 : -((x.2.natAbs * Nat.log2 x.1 : Nat) : Int) ≤ x.2 * (Nat.log2 x.1 : Int) := by
      rw [Int.natCast_mul, ← Int.neg_mul]
      exact Int.mul_le_mul_of_nonneg_right (by omega) (by omega)
    omega
/-- What sign asks of its list; k: so many doublings of the words are enough. -/
structure SignOk (l : List (Nat × Int)) (k : Nat) : Prop where
  n : ∀ x ∈ l, 1 ≤ x.1 ∧ x.1 < 4611686018427387904
  a : nA l ≤ 1200000000000000000
  w : wA l ≤ 7900000000000000000
  len : l.length ≤ 1000
  fin : min (upP l) (dnP l) * (4 * nA l + 1) ≤ 2 ^ (64 * 2 ^ k - 2)
  k : k ≤ 44
theorem SignOk.pos {l : List (Nat × Int)} {k : Nat} (h : SignOk l k) : posN l := fun x hx => (h.n x hx).1
theorem log2_lt62 {n : Nat} (h0 : 1 ≤ n) (h : n < 4611686018427387904) : Nat.log2 n ≤ 61 := by
  have h1 : 2 ^ Nat.log2 n ≤ n := Nat.log2_self_le (by omega)
  have h2 : 2 ^ Nat.log2 n < 2 ^ 62 := Nat.lt_of_le_of_lt h1 h
  have := (Nat.pow_lt_pow_iff_right (a := 2) (by omega)).1 h2
  omega
theorem SignOk.good {l : List (Nat × Int)} {k W : Nat} (h : SignOk l k) (hW : 1 ≤ W) : goodN (64 * W - 1) l := fun x hx => by
  obtain ⟨h1, h2⟩ := h.n x hx
  exact ⟨h1, by have := log2_lt62 h1 h2; omega⟩
theorem SignOk.all {l : List (Nat × Int)} {k B : Nat} (h : SignOk l k) (hB : 9100000000000000000 ≤ B) : allP l ≤ 2 ^ B := by
  have h1 := allP_le h.pos
  have h2 := h.a
  have h3 := h.w
  have h4 : wA l + nA l ≤ B := by omega
  exact Nat.le_trans h1 (Nat.pow_le_pow_right (by omega) h4)
theorem nA_mem {l : List (Nat × Int)} {x : Nat × Int} (h : x ∈ l) : x.2.natAbs ≤ nA l := by
  induction l with
  | nil => cases h
  | cons y r ih =>
    show x.2.natAbs ≤ y.2.natAbs + nA r
    rcases List.mem_cons.1 h with h | h
    · subst h; omega
    · have := ih h; omega
theorem SignOk.enough {l : List (Nat × Int)} {k W : Nat} {r : Int} (h : SignOk l k) (hW : 2 ^ k ≤ W) (hr : EstPost W l r) (hs : sgnP l ≠ 0) : r ≠ 0 := by
  have hp : 0 < 2 ^ k := Nat.pow_pos (by omega)
  refine est_total (by omega) (h.good (by omega)) hr hs ?_
  rw [nA_parts]
  exact Nat.le_trans h.fin (Nat.pow_le_pow_right (by omega) (by omega))
theorem allN_le : ∀ {l : List (Nat × Int)}, (∀ x ∈ l, 1 ≤ x.1 ∧ x.1 < 4611686018427387904) → allN l ≤ 2 ^ (62 * l.length)
  | [], _ => Nat.le_refl 1
  | x :: r, h => by
    have ih := allN_le (l := r) fun y hy => h y (by simp [hy])
    show x.1 * allN r ≤ 2 ^ (62 * (r.length + 1))
    rw [Nat.mul_add, Nat.mul_one, Nat.pow_add, Nat.mul_comm]
    exact Nat.mul_le_mul ih (Nat.le_of_lt (h x (by simp)).2)
theorem SignOk.few {l : List (Nat × Int)} {k K : Nat} (h : SignOk l k) (hK : 63000 ≤ K) : 2 ^ l.length * allN l ≤ 2 ^ K := by
  have h1 := allN_le h.n
  have h2 := h.len
  calc 2 ^ l.length * allN l ≤ 2 ^ l.length * 2 ^ (62 * l.length) := Nat.mul_le_mul_left _ h1
    _ = 2 ^ (l.length + 62 * l.length) := (Nat.pow_add _ _ _).symm
    _ ≤ 2 ^ K := Nat.pow_le_pow_right (by omega) (by omega)
theorem SignOk.one {l : List (Nat × Int)} {k B K : Nat} (h : SignOk l k) (hB : 9100000000000000000 ≤ B) (hK : 63000 ≤ K) : OneRel l B K l [] :=
  OneRel.start h.pos (h.all hB) (fun x hx => by have := nA_mem hx; have := h.a; omega) (h.few hK)
end Go.Proofs.YtkoghdgfllichaaDoor
namespace Go.Proofs.YtkoghdgfllichaaDoor

/-! Which lists are in these bounds. -/
theorem wA_append : ∀ a b, wA (a ++ b) = wA a + wA b
  | [], b => by simp [wA]
  | x :: r, b => by show _ + wA (r ++ b) = _ + wA r + wA b; rw [wA_append r b]; omega
theorem nA_append : ∀ a b, nA (a ++ b) = nA a + nA b
  | [], b => by simp [nA]
  | x :: r, b => by show _ + nA (r ++ b) = _ + nA r + nA b; rw [nA_append r b]; omega
theorem up_le_all {l : List (Nat × Int)} (hp : posN l) : upP l ≤ allP l := by
  rw [← allP_parts]; exact Nat.le_mul_of_pos_right _ (dnP_pos' hp)
theorem dn_le_all {l : List (Nat × Int)} (hp : posN l) : dnP l ≤ allP l := by
  rw [← allP_parts]; exact Nat.le_mul_of_pos_left _ (upP_pos' hp)
theorem min_snoc {l : List (Nat × Int)} (hp : posN l) (n : Nat) (a : Int) : min (upP (l ++ [(n, a)])) (dnP (l ++ [(n, a)])) ≤ allP l := by
  rw [upP_snoc, dnP_snoc]
  rcases Int.le_total 0 a with h | h
  · rw [show (-a).toNat = 0 by omega, Nat.pow_zero, Nat.mul_one]
    exact Nat.le_trans (Nat.min_le_right _ _) (dn_le_all hp)
  · rw [show a.toNat = 0 by omega, Nat.pow_zero, Nat.mul_one]
    exact Nat.le_trans (Nat.min_le_left _ _) (up_le_all hp)
theorem fin_of {m a b w k : Nat} (h1 : m ≤ 2 ^ a) (h2 : b ≤ 2 ^ w) (h3 : a + w ≤ 64 * 2 ^ k - 2) : m * b ≤ 2 ^ (64 * 2 ^ k - 2) :=
  calc m * b ≤ 2 ^ a * 2 ^ w := Nat.mul_le_mul h1 h2
    _ = 2 ^ (a + w) := (Nat.pow_add _ _ _).symm
    _ ≤ 2 ^ (64 * 2 ^ k - 2) := Nat.pow_le_pow_right (by omega) h3
/-- A list as it is. -/
theorem SignOk.of {l : List (Nat × Int)} {k : Nat} (hn : ∀ x ∈ l, 1 ≤ x.1 ∧ x.1 < 4611686018427387904) (ha : nA l ≤ 250000000000000000) (hw : wA l ≤ 7900000000000000000) (hl : l.length ≤ 1000) (hk : k ≤ 44) (hf : wA l + nA l + 60 ≤ 64 * 2 ^ k - 2) : SignOk l k := by
  have hp : posN l := fun x hx => (hn x hx).1
  refine ⟨hn, by omega, hw, hl, fin_of (Nat.le_trans (min_le_all hp) (allP_le hp)) (w := 60) ?_ hf, hk⟩
  have : (2 : Nat) ^ 60 = 1152921504606846976 := by decide
  omega
/-- A list with one power more at its end. -/
theorem SignOk.snoc {l : List (Nat × Int)} {k n : Nat} {a : Int} (hn : ∀ x ∈ l, 1 ≤ x.1 ∧ x.1 < 4611686018427387904) (h1 : 1 ≤ n) (h2 : n < 4611686018427387904)
    (ha : nA l + a.natAbs ≤ 250000000000000000) (hw : wA l + a.natAbs * Nat.log2 n ≤ 7900000000000000000) (hl : l.length < 1000) (hk : k ≤ 44) (hf : wA l + nA l + 60 ≤ 64 * 2 ^ k - 2) : SignOk (l ++ [(n, a)]) k := by
  have hp : posN l := fun x hx => (hn x hx).1
  have e1 : nA (l ++ [(n, a)]) = nA l + a.natAbs := by rw [nA_append]; rfl
  have e2 : wA (l ++ [(n, a)]) = wA l + a.natAbs * Nat.log2 n := by rw [wA_append]; rfl
  refine ⟨?_, by omega, by omega, by simp; omega, ?_, hk⟩
  · intro x hx
    rcases List.mem_append.1 hx with h | h
    · exact hn x h
    · rw [List.mem_singleton] at h
      subst h
      exact ⟨h1, h2⟩
  · refine fin_of (Nat.le_trans (min_snoc hp n a) (allP_le hp)) (w := 60) ?_ hf
    have : (2 : Nat) ^ 60 = 1152921504606846976 := by decide
    omega
theorem log2_le {n k : Nat} (h0 : 1 ≤ n) (h : n < 2 ^ (k + 1)) : Nat.log2 n ≤ k := by
  have h1 : 2 ^ Nat.log2 n ≤ n := Nat.log2_self_le (by omega)
  have := (Nat.pow_lt_pow_iff_right (a := 2) (by omega)).1 (Nat.lt_of_le_of_lt h1 h)
  omega
/-- Sums over a list of numbers and exponents in their ranges. -/
theorem sums_le {N e w : Nat} (hN : N < 2 ^ (w + 1)) : ∀ {l : List (Nat × Int)}, (∀ x ∈ l, 1 ≤ x.1 ∧ x.1 ≤ N ∧ x.2.natAbs ≤ e) → nA l ≤ l.length * e ∧ wA l ≤ l.length * (e * w)
  | [], _ => ⟨Nat.zero_le _, Nat.zero_le _⟩
  | x :: r, h => by
    obtain ⟨i1, i2⟩ := sums_le hN (l := r) fun y hy => h y (by simp [hy])
    obtain ⟨h1, h2, h3⟩ := h x (by simp)
    have h4 := log2_le h1 (Nat.lt_of_le_of_lt h2 hN)
    constructor
    · show x.2.natAbs + nA r ≤ (r.length + 1) * e
      rw [Nat.add_mul]; omega
    · show x.2.natAbs * Nat.log2 x.1 + wA r ≤ (r.length + 1) * (e * w)
      rw [Nat.add_mul]
      have := Nat.mul_le_mul h3 h4
      omega
/-- What Sign accepts. -/
def validL (l : List (Nat × Int)) : Prop := l.length ≤ 16 ∧ ∀ x ∈ l, 1 ≤ x.1 ∧ x.1 ≤ 1000000000000 ∧ x.2.natAbs ≤ 1000000000
theorem validL.ok {l : List (Nat × Int)} (h : validL l) : SignOk l 34 := by
  obtain ⟨h1, h2⟩ := h
  obtain ⟨s1, s2⟩ := sums_le (N := 1000000000000) (e := 1000000000) (w := 39) (by decide) h2
  have h3 : nA l ≤ 16000000000 := Nat.le_trans s1 (Nat.le_trans (Nat.mul_le_mul_right _ h1) (by decide))
  have h4 : wA l ≤ 624000000000 := Nat.le_trans s2 (Nat.le_trans (Nat.mul_le_mul_right _ h1) (by decide))
  refine SignOk.of (fun x hx => ⟨(h2 x hx).1, by have := (h2 x hx).2.1; omega⟩) (by omega) (by omega) (by omega) (by omega) ?_
  have : (64 : Nat) * 2 ^ 34 - 2 = 1099511627774 := by decide
  omega
end Go.Proofs.YtkoghdgfllichaaDoor
