import Derived.Test.YtlababdfdjjjaaaGreatDoorF2
import Derived.Test.YtlababdfdjjjaaaGreatDoorA1
namespace Go.Proofs.YtlababdfdjjjaaaGreatDoor
open Go.RowKit

/-! What the field's laws want of fractions. -/
theorem fq_unique {N M : Int} {D E : Nat} (hD : D ≠ 0) (hE : E ≠ 0) (h1 : Nat.gcd N.natAbs D = 1) (h2 : Nat.gcd M.natAbs E = 1) (h : N * (E : Int) = M * (D : Int)) : N = M ∧ D = E := by
  have ha : N.natAbs * E = M.natAbs * D := by
    have := congrArg Int.natAbs h
    simpa [Int.natAbs_mul] using this
  have d1 : D ∣ E := (Nat.Coprime.symm h1).dvd_of_dvd_mul_left ⟨M.natAbs, by rw [ha, Nat.mul_comm]⟩
  have d2 : E ∣ D := (Nat.Coprime.symm h2).dvd_of_dvd_mul_left ⟨N.natAbs, by rw [← ha, Nat.mul_comm]⟩
  have e := Nat.dvd_antisymm d1 d2
  subst e
  exact ⟨Int.eq_of_mul_eq_mul_right (by omega) h, rfl⟩
theorem cancel_r {a b c : Int} (hc : c ≠ 0) (h : a * c = b * c) : a = b := Int.eq_of_mul_eq_mul_right hc h
theorem mul_ne {a b : Int} (h1 : a ≠ 0) (h2 : b ≠ 0) : a * b ≠ 0 := Int.mul_ne_zero h1 h2
theorem back_eq {N1 N2 Ns Na D1 D2 Ds Da : Int} (h2 : D2 ≠ 0) (hs : Ds ≠ 0) (p1 : Ns * (D1 * D2) = (N1 * D2 + N2 * D1) * Ds) (p2 : Na * (Ds * D2) = (Ns * D2 - N2 * Ds) * Da) : Na * D1 = N1 * Da :=
  cancel_r (mul_ne (mul_ne hs h2) h2) (by grind)
theorem sum_cross {N1 N2 Ns Nu D1 D2 Ds Du : Int} (hs : Ds ≠ 0) (p1 : Ns * (D1 * D2) = (N1 * D2 + N2 * D1) * Ds) (p2 : Nu * (Ds * D2) = Ns * N2 * Du) : Nu * (D1 * D2 * D2) = (N1 * D2 + N2 * D1) * N2 * Du :=
  cancel_r hs (by
    have e1 : Nu * (D1 * D2 * D2) * Ds = (Nu * (Ds * D2)) * (D1 * D2) := by grind
    have e2 : (N1 * D2 + N2 * D1) * N2 * Du * Ds = ((N1 * D2 + N2 * D1) * Ds) * N2 * Du := by grind
    rw [e1, e2, p2, ← p1]; grind)
theorem right_cross {N1 N2 Np Nq Nr D1 D2 Dp Dq Dr : Int} (hp : Dp ≠ 0) (hq : Dq ≠ 0) (p1 : Np * (D1 * D2) = N1 * N2 * Dp) (p2 : Nq * (D2 * D2) = N2 * N2 * Dq) (p3 : Nr * (Dp * Dq) = (Np * Dq + Nq * Dp) * Dr) : Nr * (D1 * D2 * D2) = (N1 * D2 + N2 * D1) * N2 * Dr :=
  cancel_r (mul_ne hp hq) (by
    have e1 : Nr * (D1 * D2 * D2) * (Dp * Dq) = (Nr * (Dp * Dq)) * (D1 * D2 * D2) := by grind
    have e2 : (Np * Dq + Nq * Dp) * Dr * (D1 * D2 * D2) = (Np * (D1 * D2)) * (D2 * Dq * Dr) + (Nq * (D2 * D2)) * (D1 * Dp * Dr) := by grind
    rw [e1, p3, e2, p1, p2]; grind)
theorem both_cross {Nu Nr T X Du Dr : Int} (hT : T ≠ 0) (h1 : Nu * T = X * Du) (h2 : Nr * T = X * Dr) : Nu * Dr = Nr * Du :=
  cancel_r hT (by
    have e1 : Nu * Dr * T = (Nu * T) * Dr := by grind
    have e2 : Nr * Du * T = (Nr * T) * Du := by grind
    rw [e1, e2, h1, h2]; grind)
theorem quo_cross {N1 N2 Np Nv D1 D2 Dp Dv : Int} {M : Nat} (hM : (M : Int) ≠ 0) (hp : Dp ≠ 0) (p1 : Np * (D1 * D2) = N1 * N2 * Dp) (g : Int) (hg : N2 = g * M ∧ g * g = 1) (p2 : Nv * (Dp * M) = Np * (g * D2) * Dv) : Nv * D1 = N1 * Dv :=
  cancel_r (mul_ne hp hM) (by
    obtain ⟨e, e2⟩ := hg
    have e3 : Nv * D1 * (Dp * M) = (Nv * (Dp * M)) * D1 := by grind
    have e4 : Np * (g * D2) * Dv * D1 = (Np * (D1 * D2)) * (g * Dv) := by grind
    rw [e3, p2, e4, p1, e]
    have e5 : N1 * (g * M) * Dp * (g * Dv) = N1 * M * Dp * Dv * (g * g) := by grind
    rw [e5, e2]; grind)
theorem sign_parts (N : Int) (D : Nat) : ∃ g : Int, N = g * (N.natAbs : Int) ∧ g * g = 1 ∨ N = 0 := by
  rcases Int.lt_trichotomy N 0 with h | h | h
  · exact ⟨-1, .inl ⟨by omega, rfl⟩⟩
  · exact ⟨1, .inr h⟩
  · exact ⟨1, .inl ⟨by omega, rfl⟩⟩
theorem sg_parts {N : Int} (h : N ≠ 0) : ∃ g : Int, N = g * (N.natAbs : Int) ∧ g * g = 1 ∧ ∀ D : Nat, sgI (decide (N < 0)) D = g * (D : Int) := by
  rcases (show N < 0 ∨ 0 < N by omega) with h | h
  · exact ⟨-1, by omega, rfl, fun D => by unfold sgI; rw [decide_eq_true h, if_pos rfl]; omega⟩
  · exact ⟨1, by omega, rfl, fun D => by unfold sgI; rw [decide_eq_false (by omega), if_neg (by simp)]; omega⟩
theorem diff_sign {Nd Dd A B K : Int} (hK : 0 < K) (hD : 0 < Dd) (h : Nd * K = (A - B) * Dd) : (Nd < 0 ↔ A < B) ∧ (Nd = 0 ↔ A = B) := by
  have k1 : Nd < 0 ↔ A - B < 0 := by
    constructor
    · intro hn
      have : Nd * K < 0 := Int.mul_neg_of_neg_of_pos hn hK
      rw [h] at this
      rcases (show A - B < 0 ∨ 0 ≤ A - B by omega) with h2 | h2
      · exact h2
      · have := Int.mul_nonneg h2 (Int.le_of_lt hD); omega
    · intro hn
      have : (A - B) * Dd < 0 := Int.mul_neg_of_neg_of_pos hn hD
      rw [← h] at this
      rcases (show Nd < 0 ∨ 0 ≤ Nd by omega) with h2 | h2
      · exact h2
      · have := Int.mul_nonneg h2 (Int.le_of_lt hK); omega
  have k2 : Nd = 0 ↔ A - B = 0 := by
    constructor
    · intro hn
      rw [hn, Int.zero_mul] at h
      rcases Int.mul_eq_zero.1 h.symm with h2 | h2
      · exact h2
      · omega
    · intro hn
      rw [hn, Int.zero_mul] at h
      rcases Int.mul_eq_zero.1 h with h2 | h2
      · exact h2
      · omega
  constructor
  · rw [k1]; omega
  · rw [k2]; omega
/-- A proper argument is a fraction. -/
theorem fq_of {w : World} {s : Bool} {vn vd : Value} {ln ld : List Nat} (h1 : Arg w vn ln) (h2 : Arg w vd ld) (hp : properW s ln ld = true) (l1 : ln.length ≤ 8) (l2 : ld.length ≤ 8) : ∃ (N : Int) (D : Nat), FQ w 8 s vn vd N D := by
  obtain ⟨he, hd0, hn0, hg⟩ := properW_ok hp
  obtain ⟨a1, a2, a3⟩ := h1.num he (by simp)
  obtain ⟨b1, b2, b3⟩ := h2.num he (by simp)
  have habs : (sgI s (val ln)).natAbs = val ln := by unfold sgI; cases s <;> simp
  refine ⟨sgI s (val ln), val ld, ?_, by rw [habs]; exact a1, b1, hd0, by rw [habs]; exact hg, by rw [habs, a3]; exact l1, by rw [b3]; exact l2⟩
  unfold sgI
  cases s
  · rw [if_neg (by simp)]; symm; exact decide_eq_false (by omega)
  · have := hn0 rfl
    rw [if_pos rfl]; symm; exact decide_eq_true (by omega)
theorem FQ.args {w : World} {L : Nat} {s : Bool} {vn vd : Value} {N : Int} {D : Nat} (h : FQ w L s vn vd N D) (hL : L ≤ 1000) : Arg w vn (dg N.natAbs) ∧ Arg w vd (dg D) := ⟨num_arg h.num _ rfl (by have := h.ln; omega), num_arg h.den _ rfl (by have := h.ld; omega)⟩
/-- Two fractions of one value are the same. -/
theorem fq_same {w : World} {L L' : Nat} {s s' : Bool} {vn vd vn' vd' : Value} {N M : Int} {D E : Nat} (h : FQ w L s vn vd N D) (h' : FQ w L' s' vn' vd' M E) (hL : L ≤ 1000) (hL' : L' ≤ 1000) (hc : N * (E : Int) = M * (D : Int)) :
    Calls Tryz.prog 53 #[.agg #[.bool s, vn, vd], .agg #[.bool s', vn', vd']] w fun e w' => e = .returned (.bool true) ∧ Below w.heap.size w w' := by
  obtain ⟨e1, e2⟩ := fq_unique h.ne h'.ne h.co h'.co hc
  subst e1 e2
  have hs : s = s' := h.sg.trans h'.sg.symm
  subst hs
  exact aw_sameQ w _ _ _ _ s _ _ (h.args hL).1 (h.args hL).2 (h'.args hL').1 (h'.args hL').2
theorem floor_small (N : Int) (D : Nat) (hD : D ≠ 0) : (N / (D : Int)).natAbs ≤ N.natAbs := by
  have h1 : (1 : Int) ≤ (D : Int) := by omega
  rcases (show N < 0 ∨ 0 ≤ N by omega) with h | h
  · have a1 : N / (D : Int) < 0 := Int.ediv_neg_of_neg_of_pos h (by omega)
    have a2 : N ≤ N / (D : Int) := by
      rw [Int.le_ediv_iff_mul_le (by omega)]
      have := Int.mul_le_mul_of_nonpos_left (a := N) (Int.le_of_lt h) h1
      omega
    omega
  · have a1 : 0 ≤ N / (D : Int) := Int.ediv_nonneg h (by omega)
    have a2 : N / (D : Int) ≤ N := Int.ediv_le_self _ h
    omega
end Go.Proofs.YtlababdfdjjjaaaGreatDoor
