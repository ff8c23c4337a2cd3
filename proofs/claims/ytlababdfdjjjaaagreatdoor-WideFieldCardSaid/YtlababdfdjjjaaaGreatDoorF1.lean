import Derived.Test.YtlababdfdjjjaaaGreatDoorYRE
namespace Go.Proofs.YtlababdfdjjjaaaGreatDoor
open Go.RowKit

/-! Fractions by their whole numbers. -/
/-- m, signed. -/
def sgI (s : Bool) (m : Nat) : Int := if s then -(m : Int) else (m : Int)
theorem low_spec (sg : Bool) (m n : Nat) (hn : n ≠ 0) (h1 : (dg m).length ≤ 512) (h2 : (dg n).length ≤ 512) :
    ∃ (N : Int) (D : Nat), lowW sg m n = (decide (N < 0), N.natAbs, D, 0) ∧ D ≠ 0 ∧ Nat.gcd N.natAbs D = 1 ∧ N * (n : Int) = sgI sg m * (D : Int) ∧ (dg N.natAbs).length ≤ (dg m).length ∧ (dg D).length ≤ (dg n).length := by
  obtain ⟨g, hg⟩ : ∃ g, g = Nat.gcd m n := ⟨_, rfl⟩
  have hg0 : 0 < g := by rw [hg]; exact Nat.gcd_pos_of_pos_right _ (by omega)
  have hp : m = g * (m / g) := by rw [hg]; exact (Nat.mul_div_cancel' (Nat.gcd_dvd_left m n)).symm
  have hq : n = g * (n / g) := by rw [hg]; exact (Nat.mul_div_cancel' (Nat.gcd_dvd_right m n)).symm
  have l1 : (dg (m / g)).length ≤ (dg m).length := dg_mono (Nat.div_le_self _ _)
  have l2 : (dg (n / g)).length ≤ (dg n).length := dg_mono (Nat.div_le_self _ _)
  have hc : Nat.gcd (m / g) (n / g) = 1 := by
    rw [hg]
    exact Nat.coprime_div_gcd_div_gcd (by rw [← hg]; exact hg0)
  have hlow : lowW sg m n = (sg && decide (m / g ≠ 0), m / g, n / g, 0) := by
    unfold lowW
    rw [← hg, if_neg (by omega)]
  have hd : n / g ≠ 0 := fun e => by rw [e, Nat.mul_zero] at hq; exact hn hq
  clear hg
  generalize m / g = p at *
  generalize n / g = q at *
  refine ⟨sgI sg p, q, ?_, hd, ?_, ?_, ?_, l2⟩
  · rw [hlow]
    unfold sgI
    cases sg
    · have : ¬ ((p : Nat) : Int) < 0 := by omega
      simp
    · by_cases h0 : p = 0
      · subst h0; simp
      · have : 0 < p := by omega
        simp [h0, this]
  · have : (sgI sg p).natAbs = p := by unfold sgI; cases sg <;> simp
    rw [this]; exact hc
  · have : sgI sg m = sgI sg p * (g : Int) := by
      unfold sgI
      rw [hp]
      cases sg
      · simp only [Bool.false_eq_true, if_false]; rw [Int.natCast_mul, Int.mul_comm]
      · simp only [if_true]; rw [Int.natCast_mul, Int.mul_comm, ← Int.neg_mul, Int.neg_mul]
    rw [this, hq, Int.natCast_mul, ← Int.mul_assoc]
  · have : (sgI sg p).natAbs = p := by unfold sgI; cases sg <;> simp
    rw [this]; exact l1
theorem sgI_abs (N : Int) : sgI (decide (N < 0)) N.natAbs = N := by
  unfold sgI
  by_cases h : N < 0
  · simp [h]; omega
  · simp [h]; omega
theorem sgI_mul (s : Bool) (m n : Nat) : sgI s (m * n) = sgI s m * (n : Int) := by
  unfold sgI
  cases s <;> simp [Int.neg_mul]
theorem sgI_ne (s t : Bool) (m n : Nat) : sgI (s != t) (m * n) = sgI s m * sgI t n := by
  unfold sgI
  cases s <;> cases t <;> simp [Int.neg_mul, Int.mul_neg]
/-- The sum. -/
theorem fsum_spec (N1 N2 : Int) (D1 D2 : Nat) (h1 : D1 ≠ 0) (h2 : D2 ≠ 0) (hb : (dg (N1.natAbs * D2)).length + (dg (N2.natAbs * D1)).length < 512) (hb2 : (dg (D1 * D2)).length ≤ 512) :
    ∃ (N : Int) (D : Nat), fsumW (decide (N1 < 0)) N1.natAbs D1 (decide (N2 < 0)) N2.natAbs D2 = (decide (N < 0), N.natAbs, D, 0) ∧ D ≠ 0 ∧ Nat.gcd N.natAbs D = 1 ∧ N * ((D1 * D2 : Nat) : Int) = (N1 * (D2 : Int) + N2 * (D1 : Int)) * (D : Int) ∧ (dg N.natAbs).length ≤ (dg (N1.natAbs * D2)).length + (dg (N2.natAbs * D1)).length + 1 ∧ (dg D).length ≤ (dg (D1 * D2)).length := by
  have e1 := sgI_mul (decide (N1 < 0)) N1.natAbs D2
  have e2 := sgI_mul (decide (N2 < 0)) N2.natAbs D1
  rw [sgI_abs] at e1 e2
  rw [← e1, ← e2]
  have hd : D1 * D2 ≠ 0 := Nat.mul_ne_zero h1 h2
  unfold fsumW
  clear e1 e2
  generalize N1.natAbs * D2 = x at *
  generalize N2.natAbs * D1 = y at *
  generalize D1 * D2 = d at *
  have hl := len_add x y
  have fin : ∀ s z, (dg z).length ≤ (dg x).length + (dg y).length + 1 → sgI s z = sgI (decide (N1 < 0)) x + sgI (decide (N2 < 0)) y → ∃ (N : Int) (D : Nat), lowW s z d = (decide (N < 0), N.natAbs, D, 0) ∧ D ≠ 0 ∧ Nat.gcd N.natAbs D = 1 ∧ N * (d : Int) = (sgI (decide (N1 < 0)) x + sgI (decide (N2 < 0)) y) * (D : Int) ∧ (dg N.natAbs).length ≤ (dg x).length + (dg y).length + 1 ∧ (dg D).length ≤ (dg d).length := by
    intro s z hz hs
    obtain ⟨N, D, a1, a2, a3, a4, a5, a6⟩ := low_spec s z d hd (by omega) hb2
    exact ⟨N, D, a1, a2, a3, by rw [a4, hs], by omega, a6⟩
  generalize decide (N1 < 0) = s at *
  generalize decide (N2 < 0) = t at *
  by_cases hst : s = t
  · rw [if_pos hst]
    refine fin s (x + y) (by omega) ?_
    subst hst
    unfold sgI
    cases s <;> simp
    omega
  · rw [if_neg hst]
    by_cases hlt : x < y
    · rw [if_pos hlt]
      refine fin t (y - x) (by have := dg_mono (show y - x ≤ x + y by omega); omega) ?_
      unfold sgI
      cases s <;> cases t <;> simp at hst ⊢ <;> omega
    · rw [if_neg hlt]
      refine fin s (x - y) (by have := dg_mono (show x - y ≤ x + y by omega); omega) ?_
      unfold sgI
      cases s <;> cases t <;> simp at hst ⊢ <;> omega
/-- The floor. -/
theorem floor_spec (N : Int) (D : Nat) (hD : D ≠ 0) : sgI (decide (N < 0)) (if decide (N < 0) = true ∧ N.natAbs % D ≠ 0 then N.natAbs / D + 1 else N.natAbs / D) = N / (D : Int) := by
  have hd : (0 : Int) < (D : Int) := by omega
  unfold sgI
  by_cases h : N < 0
  · have hN : N = -(N.natAbs : Int) := by omega
    generalize N.natAbs = m at *
    subst hN
    have h1 := Nat.div_add_mod m D
    have h2 := Nat.mod_lt m (show 0 < D by omega)
    rw [decide_eq_true h]
    simp only [true_and, if_true]
    by_cases h0 : m % D = 0
    · rw [if_neg (by simp [h0])]
      have e : (m : Int) = (D : Int) * ((m / D : Nat) : Int) := by rw [h0, Nat.add_zero] at h1; exact_mod_cast h1.symm
      symm
      rw [e, ← Int.mul_neg, Int.mul_ediv_cancel_left _ (by omega)]
    · rw [if_pos h0]
      have e : (m : Int) = (D : Int) * ((m / D : Nat) : Int) + ((m % D : Nat) : Int) := by exact_mod_cast h1.symm
      generalize m / D = q at *
      generalize m % D = r at *
      symm
      have e2 : -(m : Int) = ((D : Int) - (r : Int)) + (D : Int) * (-((q + 1 : Nat) : Int)) := by
        rw [e, Int.mul_neg, Int.natCast_add, Int.mul_add]; omega
      rw [e2, Int.add_mul_ediv_left _ _ (by omega), Int.ediv_eq_zero_of_lt (by omega) (by omega)]
      omega
  · have hN : N = (N.natAbs : Int) := by omega
    generalize N.natAbs = m at *
    subst hN
    rw [decide_eq_false h]
    simp
theorem floor_mono {N1 N2 : Int} {D1 D2 : Nat} (h1 : D1 ≠ 0) (h2 : D2 ≠ 0) (h : N1 * (D2 : Int) ≤ N2 * (D1 : Int)) : N1 / (D1 : Int) ≤ N2 / (D2 : Int) := by
  have p1 : (0 : Int) < (D1 : Int) := by omega
  have p2 : (0 : Int) < (D2 : Int) := by omega
  rw [Int.le_ediv_iff_mul_le p2]
  have e := Int.ediv_mul_le N1 (Int.ne_of_gt p1)
  have h3 : N1 / (D1 : Int) * (D2 : Int) * (D1 : Int) ≤ N2 * (D1 : Int) := by
    have h4 := Int.mul_le_mul_of_nonneg_right e (Int.le_of_lt p2)
    have e5 : N1 / (D1 : Int) * (D2 : Int) * (D1 : Int) = N1 / (D1 : Int) * (D1 : Int) * (D2 : Int) := by rw [Int.mul_assoc, Int.mul_comm (D2 : Int), ← Int.mul_assoc]
    omega
  exact Int.le_of_mul_le_mul_right h3 p1
theorem cross_trans {N1 N2 N3 : Int} {D1 D2 D3 : Nat} (h2 : D2 ≠ 0) (a : N1 * (D2 : Int) ≤ N2 * (D1 : Int)) (b : N2 * (D3 : Int) ≤ N3 * (D2 : Int)) : N1 * (D3 : Int) ≤ N3 * (D1 : Int) := by
  have p2 : (0 : Int) < (D2 : Int) := by omega
  have a' := Int.mul_le_mul_of_nonneg_right a (Int.natCast_nonneg D3)
  have b' := Int.mul_le_mul_of_nonneg_right b (Int.natCast_nonneg D1)
  have e1 : N1 * (D2 : Int) * (D3 : Int) = N1 * (D3 : Int) * (D2 : Int) := by rw [Int.mul_assoc, Int.mul_comm (D2 : Int), ← Int.mul_assoc]
  have e2 : N2 * (D1 : Int) * (D3 : Int) = N2 * (D3 : Int) * (D1 : Int) := by rw [Int.mul_assoc, Int.mul_comm (D1 : Int), ← Int.mul_assoc]
  have e3 : N3 * (D2 : Int) * (D1 : Int) = N3 * (D1 : Int) * (D2 : Int) := by rw [Int.mul_assoc, Int.mul_comm (D2 : Int), ← Int.mul_assoc]
  exact Int.le_of_mul_le_mul_right (by omega) p2
/-- What a quotient of the same value has for floor and ceiling. -/
theorem floor_same {N a : Int} {D b : Nat} (hD : D ≠ 0) (hb : b ≠ 0) (h : N * (b : Int) = a * (D : Int)) : N / (D : Int) = a / (b : Int) :=
  Int.le_antisymm (floor_mono hD hb (Int.le_of_eq h)) (floor_mono hb hD (Int.le_of_eq h.symm))
/-- The sign of a comparison. -/
theorem cmp_spec (N1 N2 : Int) (D1 D2 : Nat) (h1 : D1 ≠ 0) (h2 : D2 ≠ 0) :
    signW (decide (N1 < 0)) (decide (N2 < 0)) (cmpI (N1.natAbs * D2) (N2.natAbs * D1)) = (if N1 * (D2 : Int) < N2 * (D1 : Int) then -1 else if N1 * (D2 : Int) = N2 * (D1 : Int) then 0 else 1) := by
  have e1 := sgI_mul (decide (N1 < 0)) N1.natAbs D2
  have e2 := sgI_mul (decide (N2 < 0)) N2.natAbs D1
  rw [sgI_abs] at e1 e2
  rw [← e1, ← e2]
  have z1 : N1 < 0 → N1.natAbs * D2 ≠ 0 := fun h => Nat.mul_ne_zero (by omega) h2
  have z2 : N2 < 0 → N2.natAbs * D1 ≠ 0 := fun h => Nat.mul_ne_zero (by omega) h1
  clear e1 e2
  generalize N1.natAbs * D2 = x at *
  generalize N2.natAbs * D1 = y at *
  unfold signW sgI cmpI
  by_cases a : N1 < 0 <;> by_cases b : N2 < 0 <;> simp only [a, b, decide_true, decide_false, if_true, if_false, Bool.false_eq_true] <;> repeat' split
  all_goals (try have := z1 a); (try have := z2 b); omega
end Go.Proofs.YtlababdfdjjjaaaGreatDoor
