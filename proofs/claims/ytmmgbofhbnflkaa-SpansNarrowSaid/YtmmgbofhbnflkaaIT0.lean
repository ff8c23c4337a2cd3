import Derived.Test.YtmmgbofhbnflkaaI12
namespace Go.Proofs.Ytmmgbofhbnflkaa

/-! SpansTurn: powers and roots, discs and squares, on numbers. -/
theorem minmax_nonneg {x y p q : Int} (h0 : 0 ≤ x) (h1 : x ≤ y) (h2 : 0 ≤ p) (h3 : p ≤ q) : minW (x, y) (p, q) = x * p ∧ maxW (x, y) (p, q) = y * q := by
  have e1 := Int.mul_le_mul_of_nonneg_left h3 h0
  have e2 := Int.mul_le_mul_of_nonneg_right h1 h2
  have e3 := Int.mul_le_mul_of_nonneg_right h1 (show 0 ≤ q by omega)
  have e4 := Int.mul_le_mul_of_nonneg_left h3 (show 0 ≤ y by omega)
  unfold minW maxW
  simp only
  omega
theorem exam_one {a : Int × Int} (h1 : okB a.1 = true) (h2 : okB a.2 = true) (h3 : a.1 ≤ a.2) : examI [a] = 0 :=
  examI_of fun x hx => by
    obtain rfl : x = a := by simpa using hx
    exact ⟨h1, h2, h3⟩
theorem exam_two {a b : Int × Int} (h1 : okB a.1 = true) (h2 : okB a.2 = true) (h3 : a.1 ≤ a.2) (g1 : okB b.1 = true) (g2 : okB b.2 = true) (g3 : b.1 ≤ b.2) : examI [a, b] = 0 :=
  examI_of fun x hx => by
    have hx' : x = a ∨ x = b := by simpa using hx
    rcases hx' with rfl | rfl
    · exact ⟨h1, h2, h3⟩
    · exact ⟨g1, g2, g3⟩
theorem powE_nonneg {a : Int × Int} {k : Nat} (h0 : 0 ≤ a.1) (h1 : a.1 ≤ a.2) (h2 : a.2 ≤ 2147483648) (hk' : k ≤ 62) :
    powE a (k : Int) = spanW (a.1 ^ k) (a.2 ^ k) := by
  unfold powE powW
  rw [if_pos (exam_one (okB_of (by omega)) (okB_of (by omega)) h1), if_neg (by omega)]
  have e : (if (k : Int) % 2 = 0 then sizesI a else a) = a := by
    split
    · unfold sizesI; rw [if_pos h0]
    · rfl
  rw [e, Int.toNat_natCast]
theorem pow_grows {x y : Int} (k : Nat) (h0 : 0 ≤ x) (h1 : x ≤ y) : x ^ k ≤ y ^ k := by
  obtain ⟨x, rfl⟩ := Int.eq_ofNat_of_zero_le h0
  obtain ⟨y, rfl⟩ := Int.eq_ofNat_of_zero_le (show 0 ≤ y by omega)
  have := Nat.pow_le_pow_left (show x ≤ y by omega) k
  exact_mod_cast this
theorem turn_pow {a : Int × Int} {k : Nat} (h0 : 0 ≤ a.1) (h1 : a.1 ≤ a.2) (h2 : a.2 ≤ 2147483648) (hk : 1 ≤ k) (hk' : k ≤ 62) :
    (powE a (k : Int) = ((0, 0), 7) ∧ 3 ≤ k) ∨ (powE a (k : Int) = ((a.1 ^ k, a.2 ^ k), 0) ∧ okB (a.1 ^ k) = true ∧ okB (a.2 ^ k) = true ∧ a.1 ^ k ≤ a.2 ^ k ∧ 0 ≤ a.1 ^ k) := by
  rw [powE_nonneg h0 h1 h2 hk']
  have hm := pow_grows k h0 h1
  have hn : 0 ≤ a.1 ^ k := Int.pow_nonneg h0
  cases h : (okB (a.1 ^ k) && okB (a.2 ^ k)) with
  | true =>
    rw [Bool.and_eq_true] at h
    exact .inr ⟨spanW_ok h.1 h.2, h.1, h.2, hm, hn⟩
  | false =>
    refine .inl ⟨by unfold spanW; rw [h]; rfl, ?_⟩
    rcases Nat.lt_or_ge k 3 with hk3 | hk3
    · exfalso
      have e1 : okB (a.1 ^ k) = true ∧ okB (a.2 ^ k) = true := by
        have e : k = 1 ∨ k = 2 := by omega
        rcases e with rfl | rfl
        · rw [Int.pow_succ, Int.pow_zero, Int.one_mul, Int.pow_succ, Int.pow_zero, Int.one_mul]
          exact ⟨okB_of (by omega), okB_of (by omega)⟩
        · rw [Int.pow_succ, Int.pow_succ, Int.pow_zero, Int.one_mul, Int.pow_succ, Int.pow_succ, Int.pow_zero, Int.one_mul]
          exact ⟨okB_of (mul31 (by omega) (by omega)), okB_of (mul31 (by omega) (by omega))⟩
      rw [e1.1, e1.2] at h
      cases h
    · exact hk3
theorem turn_root {a : Int × Int} {k : Nat} {r : (Int × Int) × Int} (h0 : 0 ≤ a.1) (h1 : a.1 ≤ a.2) (hk : 1 ≤ k) (h : RootAt (a.1 ^ k, a.2 ^ k) k r) : r = (a, 0) := by
  obtain ⟨lo, hi, hl, hh, rfl⟩ := h
  have e1 : lo = a.1 := hl.uniq (isRoot_pow h0 hk)
  have e2 : hi = a.2 := hh.uniq (isRoot_pow (show 0 ≤ a.2 by omega) hk)
  subst e1 e2
  simp
theorem sq_bound {s : Int} (h0 : 0 ≤ s) (h2 : s ≤ 1999998) : 0 ≤ s * s ∧ s * s ≤ 3999992000004 := by
  obtain ⟨n, rfl⟩ := Int.eq_ofNat_of_zero_le h0
  have : n * n ≤ 1999998 * 1999998 := Nat.mul_le_mul (by omega) (by omega)
  omega
theorem turn_disc {s1 s2 : Int} (h0 : 0 ≤ s1) (h1 : s1 ≤ s2) (h2 : s2 ≤ 1999998) :
    ∃ d1 d2 q1 q2 w1 w2 f1 f2 : Int, discE (s1, s2) = ((d1, d2), 0) ∧ mulW (s1, s2) (s1, s2) = ((q1, q2), 0) ∧ piE (q1, q2) = ((w1, w2), 0) ∧ scaleE (d1, d2) 4 1 = ((f1, f2), 0) ∧
      I64 d1 ∧ I64 d2 ∧ I64 q1 ∧ I64 q2 ∧ (0 ≤ w1 ∧ w1 ≤ 100000000000000) ∧ (0 ≤ w2 ∧ w2 ≤ 100000000000000) ∧ f1 ≤ w1 ∧ w1 < f1 + 4 ∧ w2 - 4 ≤ f2 ∧ f2 < w2 + 4 := by
  have b1 := sq_bound h0 (by omega)
  have b2 := sq_bound (show 0 ≤ s2 by omega) h2
  have hq : s1 * s1 ≤ s2 * s2 := Int.mul_le_mul h1 h1 h0 (by omega)
  have hx : examI [(s1, s2)] = 0 := exam_one (okB_of (by simp only; omega)) (okB_of (by simp only; omega)) h1
  have hxx : examI [(s1, s2), (s1, s2)] = 0 := exam_two (okB_of (by simp only; omega)) (okB_of (by simp only; omega)) h1 (okB_of (by simp only; omega)) (okB_of (by simp only; omega)) h1
  have hm := minmax_nonneg h0 h1 h0 h1
  have eD : discE (s1, s2) = prodsW (s1 * s1, s2 * s2) piL 4000000000000000000 := by
    unfold discE discW
    rw [if_pos hx, if_neg (by simp only; omega), if_neg (by simp only; omega)]
  have eM : mulW (s1, s2) (s1, s2) = spanW (s1 * s1 / 1) (upI (s2 * s2) 1) := by
    unfold mulW prodsW
    rw [if_pos hxx, hm.1, hm.2]
  rw [Int.ediv_one, upI_one] at eM
  generalize s1 * s1 = Q1 at *
  generalize s2 * s2 = Q2 at *
  have hp := minmax_nonneg (p := 3141592653589793238) (q := 3141592653589793239) b1.1 hq (by decide) (by decide)
  have eP : piE (Q1, Q2) = spanW (Q1 * 3141592653589793238 / 1000000000000000000) (upI (Q2 * 3141592653589793239) 1000000000000000000) := by
    unfold piE piW prodsW piL
    rw [if_pos (exam_one (okB_of (by simp only; omega)) (okB_of (by simp only; omega)) hq), hp.1, hp.2]
  have eD' : prodsW (Q1, Q2) piL 4000000000000000000 = spanW (Q1 * 3141592653589793238 / 4000000000000000000) (upI (Q2 * 3141592653589793239) 4000000000000000000) := by
    unfold prodsW piL
    rw [hp.1, hp.2]
  rw [eD'] at eD
  have eS : ∀ x y : Int, 0 ≤ x → x ≤ y → y ≤ 100000000000000 → scaleE (x, y) 4 1 = ((x * 4, y * 4), 0) := by
    intro x y e1 e2 e3
    unfold scaleE scaleW prodsW
    have h4 := minmax_nonneg (p := 4) (q := 4) e1 e2 (by decide) (by decide)
    rw [if_pos (exam_one (okB_of (by simp only; omega)) (okB_of (by simp only; omega)) e2), if_pos (by decide), h4.1, h4.2, Int.ediv_one, upI_one]
    exact spanW_ok (okB_of (by omega)) (okB_of (by omega))
  unfold upI at eP eD
  have c1 : 0 ≤ Q1 * 3141592653589793238 / 1000000000000000000 ∧ Q1 * 3141592653589793238 / 1000000000000000000 ≤ 100000000000000 := by omega
  have c2 : 0 ≤ -(-(Q2 * 3141592653589793239) / 1000000000000000000) ∧ -(-(Q2 * 3141592653589793239) / 1000000000000000000) ≤ 100000000000000 := by omega
  have c3 : 0 ≤ Q1 * 3141592653589793238 / 4000000000000000000 ∧ Q1 * 3141592653589793238 / 4000000000000000000 ≤ -(-(Q2 * 3141592653589793239) / 4000000000000000000) ∧ -(-(Q2 * 3141592653589793239) / 4000000000000000000) ≤ 100000000000000 := by omega
  have c4 : Q1 * 3141592653589793238 / 4000000000000000000 * 4 ≤ Q1 * 3141592653589793238 / 1000000000000000000 ∧ Q1 * 3141592653589793238 / 1000000000000000000 < Q1 * 3141592653589793238 / 4000000000000000000 * 4 + 4 := by omega
  have c5 : -(-(Q2 * 3141592653589793239) / 1000000000000000000) - 4 ≤ -(-(Q2 * 3141592653589793239) / 4000000000000000000) * 4 ∧ -(-(Q2 * 3141592653589793239) / 4000000000000000000) * 4 < -(-(Q2 * 3141592653589793239) / 1000000000000000000) + 4 := by omega
  generalize Q1 * 3141592653589793238 / 1000000000000000000 = w1 at *
  generalize -(-(Q2 * 3141592653589793239) / 1000000000000000000) = w2 at *
  generalize Q1 * 3141592653589793238 / 4000000000000000000 = d1 at *
  generalize -(-(Q2 * 3141592653589793239) / 4000000000000000000) = d2 at *
  rw [spanW_ok (okB_of (by omega)) (okB_of (by omega))] at eP eD eM
  exact ⟨d1, d2, Q1, Q2, w1, w2, _, _, eD, eM, eP, eS d1 d2 c3.1 c3.2.1 c3.2.2, by unfold I64; omega, by unfold I64; omega, by unfold I64; omega, by unfold I64; omega, c1, c2, c4.1, c4.2, c5.1, c5.2⟩
end Go.Proofs.Ytmmgbofhbnflkaa
