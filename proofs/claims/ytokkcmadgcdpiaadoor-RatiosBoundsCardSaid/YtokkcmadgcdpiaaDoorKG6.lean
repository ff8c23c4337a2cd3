import Derived.Test.YtokkcmadgcdpiaaDoorKG5
namespace Go.Proofs.YtokkcmadgcdpiaaDoor
open Go.RowKit

/-! What the law on bounds compares. -/
theorem up_pw {L : List (Nat × Int)} {S M k : Nat} : upP (L ++ [(S, (k : Int))] ++ [(M, -(k : Int))]) = upP L * S ^ k ∧ dnP (L ++ [(S, (k : Int))] ++ [(M, -(k : Int))]) = dnP L * M ^ k := by
  rw [upP_append, upP_append, dnP_append, dnP_append]
  have h1 : (k : Int).toNat = k := by omega
  have h2 : (-(k : Int)).toNat = 0 := by omega
  have h3 : (- -(k : Int)).toNat = k := by omega
  constructor
  · show upP L * (S ^ (k : Int).toNat * 1) * (M ^ (-(k : Int)).toNat * 1) = _
    rw [h1, h2]; simp
  · show dnP L * (S ^ (-(k : Int)).toNat * 1) * (M ^ (- -(k : Int)).toNat * 1) = _
    rw [h2, h3]; simp
theorem pw_le (L : List (Nat × Int)) (S M k : Nat) (hk : 1 ≤ k) : decide (dnP L * M ^ k ≤ upP L * S ^ k) = decide (0 ≤ PwF L k S M) := by
  rw [decide_eq_decide]
  unfold PwF
  by_cases h : (M : Int) = 0
  · rw [if_pos h]
    have : M = 0 := by omega
    subst this
    rw [Nat.zero_pow (by omega)]
    simp
  · rw [if_neg h, sgn_ge, Int.toNat_natCast, up_pw.1, up_pw.2]
theorem pw_eq (L : List (Nat × Int)) (S M k : Nat) (hM : 0 < M) : decide (dnP L * M ^ k = upP L * S ^ k) = (PwF L k S M == 0) := by
  rw [beq0, decide_eq_decide]
  unfold PwF
  rw [if_neg (by omega), sgn_eq, Int.toNat_natCast, up_pw.1, up_pw.2]
  exact eq_comm
theorem up_two {L : List (Nat × Int)} {z : Int} : upP (L ++ [(2, -z)]) = upP L * 2 ^ (-z).toNat ∧ dnP (L ++ [(2, -z)]) = dnP L * 2 ^ z.toNat := by
  rw [upP_append, dnP_append]
  constructor
  · show upP L * (2 ^ (-z).toNat * 1) = _
    rw [Nat.mul_one]
  · show dnP L * (2 ^ (- -z).toNat * 1) = _
    rw [Nat.mul_one, Int.neg_neg]
theorem two_le (L : List (Nat × Int)) (z : Int) : decide (dnP L * 2 ^ z.toNat ≤ upP L * 2 ^ (-z).toNat) = decide (0 ≤ sgnP (L ++ [(2, -z)])) := by
  rw [decide_eq_decide, sgn_ge, up_two.1, up_two.2]
theorem two_eq (L : List (Nat × Int)) (z : Int) : decide (dnP L * 2 ^ z.toNat = upP L * 2 ^ (-z).toNat) = (sgnP (L ++ [(2, -z)]) == 0) := by
  rw [beq0, decide_eq_decide, sgn_eq, up_two.1, up_two.2]
  exact eq_comm
theorem two_far {L : List (Nat × Int)} {E : Nat} {z : Int} (hp : posN L) (hu : upP L ≤ 2 ^ E) (hd : dnP L ≤ 2 ^ E) : (z ≤ -(E : Int) → 0 ≤ sgnP (L ++ [(2, -z)])) ∧ ((E : Int) < z → sgnP (L ++ [(2, -z)]) < 0) := by
  constructor
  · intro h
    rw [sgn_ge, up_two.1, up_two.2, show z.toNat = 0 by omega, Nat.pow_zero, Nat.mul_one]
    exact Nat.le_trans (pow_to hd (show E ≤ (-z).toNat by omega)) (Nat.le_mul_of_pos_left _ (upP_pos' hp))
  · intro h
    rw [sgn_lt, up_two.1, up_two.2, show (-z).toNat = 0 by omega, Nat.pow_zero, Nat.mul_one]
    exact Nat.lt_of_le_of_lt hu (Nat.lt_of_lt_of_le (Nat.pow_lt_pow_right (by omega) (show E < z.toNat by omega)) (Nat.le_mul_of_pos_left _ (dnP_pos' hp)))
theorem pow_bd {M a k : Nat} (h : M ≤ 2 ^ a) : M ^ k ≤ 2 ^ (a * k) := by
  rw [Nat.pow_mul]
  exact Nat.pow_le_pow_left h _
theorem mul_bd2 {a b i j : Nat} (h1 : a ≤ 2 ^ i) (h2 : b ≤ 2 ^ j) : a * b ≤ 2 ^ (i + j) := by
  rw [Nat.pow_add]
  exact Nat.mul_le_mul h1 h2
theorem valid_sz {l : List (Int × Int)} (h : szOk l) (hl : l.length ≤ 6) : validL (natT l) := by
  refine ⟨by simp [natT]; omega, fun x hx => ?_⟩
  simp only [natT, List.mem_map] at hx
  obtain ⟨y, hy, rfl⟩ := hx
  obtain ⟨h1, h2, h3, h4⟩ := h y hy
  simp only
  omega
theorem natT_bd {l : List (Int × Int)} (h : szOk l) {x : Nat × Int} (hx : x ∈ natT l) : 1 ≤ x.1 ∧ x.1 ≤ 1000000 ∧ x.2.natAbs ≤ 2000 ∧ ∃ y ∈ l, y.2 = x.2 := by
  simp only [natT, List.mem_map] at hx
  obtain ⟨y, hy, rfl⟩ := hx
  obtain ⟨h1, h2, h3, h4⟩ := h y hy
  simp only
  exact ⟨by omega, by omega, by omega, y, hy, rfl⟩
theorem pw_sign {l : List (Int × Int)} (h : szOk l) (hl : l.length ≤ 6) {S k : Nat} (hS1 : 1 ≤ S) (hS2 : S ≤ 1000000) (hk : k ≤ 8) {m : Int} (h1 : 1 ≤ m) (h2 : m ≤ 1000000000001) : SignOk (natT l ++ [(S, (k : Int))] ++ [(m.toNat, -(k : Int))]) 20 := by
  have hx : ∀ x ∈ natT l ++ [(S, (k : Int))], 1 ≤ x.1 ∧ x.1 ≤ 1000000 ∧ x.2.natAbs ≤ 2000 := by
    intro x hx
    rcases List.mem_append.1 hx with hx | hx
    · obtain ⟨a, b, c, -⟩ := natT_bd h hx; exact ⟨a, b, c⟩
    · rw [List.mem_singleton] at hx; subst hx
      exact ⟨hS1, hS2, by simp only; omega⟩
  obtain ⟨s1, s2⟩ := sums_le (N := 1000000) (e := 2000) (w := 19) (by decide) hx
  have hl' : (natT l ++ [(S, (k : Int))]).length ≤ 7 := by simp [natT]; omega
  have h3 := Nat.le_trans s1 (Nat.mul_le_mul_right _ hl')
  have h4 := Nat.le_trans s2 (Nat.mul_le_mul_right _ hl')
  have h5 : Nat.log2 m.toNat ≤ 39 := log2_le (by omega) (by have : (2 : Nat) ^ 40 = 1099511627776 := by decide
                                                            omega)
  have h6 : (-(k : Int)).natAbs ≤ 8 := by omega
  have h7 : (-(k : Int)).natAbs * Nat.log2 m.toNat ≤ 8 * 39 := Nat.mul_le_mul h6 h5
  have hk2 : (64 : Nat) * 2 ^ 20 - 2 = 67108862 := by decide
  refine SignOk.snoc (fun x hx' => ⟨(hx x hx').1, by have := (hx x hx').2.1; omega⟩) (by omega) (by omega) (by omega) (by omega) (by omega) (by omega) (by omega)
theorem fl_sign {l : List (Int × Int)} (h : szOk l) (hl : l.length ≤ 6) {S k : Nat} (hx0 : ∀ x ∈ l, x.2.natAbs * S ≤ 8000) (hk1 : 1 ≤ k) (hk : k ≤ 8) {m : Int} (h1 : -1000000000000 ≤ m) (h2 : m ≤ 1000000000001) : SignOk (scL S (natT l) ++ [(2, -(m * (k : Int)))]) 20 := by
  have hx : ∀ x ∈ scL S (natT l), 1 ≤ x.1 ∧ x.1 ≤ 1000000 ∧ x.2.natAbs ≤ 8000 := by
    intro x hx
    unfold scL at hx
    obtain ⟨y, hy, rfl⟩ := List.mem_map.1 hx
    obtain ⟨a, b, -, z, hz, e⟩ := natT_bd h hy
    refine ⟨a, b, ?_⟩
    show (y.2 * (S : Int)).natAbs ≤ _
    rw [Int.natAbs_mul, ← e]
    exact hx0 z hz
  obtain ⟨s1, s2⟩ := sums_le (N := 1000000) (e := 8000) (w := 19) (by decide) hx
  have hl' : (scL S (natT l)).length ≤ 6 := by rw [scL_len]; simp [natT]; omega
  have h3 := Nat.le_trans s1 (Nat.mul_le_mul_right _ hl')
  have h4 := Nat.le_trans s2 (Nat.mul_le_mul_right _ hl')
  have h5 := mul_bd (a := m) (b := (k : Int)) (A := 1000000000001) (B := 8) ⟨by omega, h2⟩ ⟨by omega, by omega⟩ (by omega)
  have h6 : (-(m * (k : Int))).natAbs ≤ 8000000000008 := by omega
  have e2 : Nat.log2 2 = 1 := by decide
  have hk2 : (64 : Nat) * 2 ^ 20 - 2 = 67108862 := by decide
  refine SignOk.snoc (fun x hx' => ⟨(hx x hx').1, by have := (hx x hx').2.1; omega⟩) (by omega) (by omega) (by omega) ?_ (by omega) (by omega) (by omega)
  rw [e2]; omega
end Go.Proofs.YtokkcmadgcdpiaaDoor
