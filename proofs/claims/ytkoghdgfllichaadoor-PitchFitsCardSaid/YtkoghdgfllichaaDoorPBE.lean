import Derived.Test.YtkoghdgfllichaaDoorPBD
namespace Go.Proofs.YtkoghdgfllichaaDoor.Pc
open Go.RowKit Tp

/-! Wavelength times frequency; Drift rises. -/
theorem sgn_ge_mul {l u v : List (Nat × Int)} (hl : posN l) (hu : posN u) (hv : posN v) (h : ∀ p, ex p l = ex p u + ex p v) (h1 : 0 ≤ sgnP u) (h2 : 0 ≤ sgnP v) : 0 ≤ sgnP l :=
  sgn_mul_ge hl hu hv (eqv_ex fun p => by rw [ex_append, h p]) h1 h2
theorem sgn_inv (l : List (Nat × Int)) : sgnP (invL l) = -sgnP l := by
  unfold sgnP
  rw [(invL_P l).1, (invL_P l).2]
  by_cases h1 : upP l = dnP l
  · rw [if_pos h1.symm, if_pos h1]; rfl
  · rw [if_neg (fun h => h1 h.symm), if_neg h1]
    by_cases h2 : dnP l < upP l
    · rw [if_neg (by omega), if_pos h2]
    · rw [if_pos (by omega), if_neg h2]; rfl
theorem posN_inv {l : List (Nat × Int)} (h : posN l) : posN (invL l) := fun x hx => by obtain ⟨y, hy, rfl⟩ := List.mem_map.1 hx; exact h y hy
/-- The bounds of a span, as signs. -/
theorem span_lo {l : List (Nat × Int)} {d : Int} {S : Nat} {m k : Int} (h : SpanIs (PwF l d S) m k) (hm : 1 ≤ m) : 0 ≤ sgnP (l ++ [(S, d)] ++ [(m.toNat, -d)]) := by
  have h1 := h.2.2.1
  unfold PwF at h1
  rw [if_neg (by omega)] at h1
  exact h1
theorem span_hi {l : List (Nat × Int)} {d : Int} {S : Nat} {m k : Int} (h : SpanIs (PwF l d S) m k) : 1 ≤ k ∧ sgnP (l ++ [(S, d)] ++ [(k.toNat, -d)]) ≤ 0 := by
  obtain ⟨f1, f2, f3, f4, f5⟩ := h
  rcases f5 with ⟨e, rfl⟩ | ⟨e, rfl⟩
  · unfold PwF at e
    by_cases h0 : k = 0
    · rw [if_pos h0] at e; omega
    · rw [if_neg h0] at e
      exact ⟨by omega, by omega⟩
  · unfold PwF at f4
    rw [if_neg (by omega)] at f4
    exact ⟨by omega, by omega⟩
theorem six_P (u S v C h : Nat) (e : Nat) : upP [(1, (e : Int)), (u, -(e : Int)), (S, (e : Int)), (v, -(e : Int)), (C, -(e : Int)), (h, (e : Int))] = (S * h) ^ e ∧ dnP [(1, (e : Int)), (u, -(e : Int)), (S, (e : Int)), (v, -(e : Int)), (C, -(e : Int)), (h, (e : Int))] = (u * v * C) ^ e := by
  have e1 : (-(e : Int)).toNat = 0 := by omega
  have e2 : (- -(e : Int)).toNat = e := by omega
  constructor
  · simp only [upP, e1, Int.toNat_natCast, Nat.one_pow, Nat.pow_zero, Nat.one_mul, Nat.mul_one, Nat.mul_pow]
  · simp only [dnP, e1, e2, Nat.pow_zero, Nat.one_mul, Nat.mul_one, Nat.mul_pow]
    rw [Nat.mul_assoc]
theorem ex_six (p u S v C h : Nat) (e : Int) : ex p [(1, e), (u, -e), (S, e), (v, -e), (C, -e), (h, e)] = ex p [(1, e)] + ex p [(u, -e)] + (ex p [(S, e)] + ex p [(v, -e)]) + (ex p [(h, e)] - ex p [(C, e)]) := by
  rw [ex_of p C e]
  rw [show ex p [(1, e), (u, -e), (S, e), (v, -e), (C, -e), (h, e)] = ex p [(1, e)] + (ex p [(u, -e)] + (ex p [(S, e)] + (ex p [(v, -e)] + (ex p [(C, -e)] + ex p [(h, e)])))) by simp only [ex, Int.add_zero], ex_of p C (-e), Int.mul_neg]
  omega
theorem pow_le_of {a b e : Nat} (he : 0 < e) (h : a ^ e ≤ b ^ e) : a ≤ b := by
  rcases Nat.lt_or_ge b a with h1 | h1
  · have := Nat.pow_lt_pow_left h1 (Nat.pos_iff_ne_zero.1 he); omega
  · exact h1
theorem fits_lo {A : Nat} {R : Rt} {t0 u u' v v' c h : Int} (hR : ROk R) (hA : 1 ≤ A) (hA2 : A ≤ 1000000) (h1 : -20000 ≤ t0) (h2 : t0 ≤ 50000) (hf : SpanIs (PwF (fqL A t0 t0 R) (fqD R) 1) u u') (hw : SpanIs (PwF (wvL A t0 R) (wvD R) 331300000000) v v')
    (hc : SpanIs (PwF (fastL 0 t0) 2 331300000) c h) : u * v ≤ 1000 * h := by
  by_cases hu : u < 1
  · have e : u = 0 := by have := hf.1; omega
    have := (span_hi hc).1
    rw [e]; omega
  · by_cases hv : v < 1
    · have e : v = 0 := by have := hw.1; omega
      have := (span_hi hc).1
      rw [e]; omega
    · have X := span_lo hf (by omega)
      have Y := span_lo hw (by omega)
      obtain ⟨hh, Z⟩ := span_hi hc
      have d1 := hR.d1
      have d2 := hR.d2
      have Z2 : 0 ≤ sgnP (invL (scL R.d (fastL 0 t0 ++ [(331300000, 2)] ++ [(h.toNat, -2)]))) := by rw [sgn_inv, sgn_scl (by omega)]; omega
      have pf := fq_pos (t := t0) hR hA hA2 h1 h2 h1 h2
      have pw := wv_pos (t0 := t0) hR hA hA2 h1 h2
      have pc := fast_pos (a := 0) (b := t0) (by omega) (by omega) h1 h2
      have q1 := posN_pw (S := 1) (d := fqD R) pf (by omega) (show 1 ≤ u.toNat by omega)
      have q2 := posN_pw (S := 331300000000) (d := wvD R) pw (by omega) (show 1 ≤ v.toNat by omega)
      have q3 := posN_inv (posN_scL R.d (posN_pw (S := 331300000) (d := 2) pc (by omega) (show 1 ≤ h.toNat by omega)))
      obtain ⟨e, he⟩ : ∃ e : Nat, R.d * 2 = (e : Int) := ⟨(R.d * 2).toNat, by omega⟩
      have ef : fqD R = (e : Int) := by unfold fqD; omega
      have ew : wvD R = (e : Int) := by unfold wvD; omega
      have q4 : posN [(1, (e : Int)), (u.toNat, -(e : Int)), (331300000000, (e : Int)), (v.toNat, -(e : Int)), (331300000, -(e : Int)), (h.toNat, (e : Int))] := by
        refine posN_cons.2 ⟨by show 1 ≤ 1; omega, posN_cons.2 ⟨by show 1 ≤ u.toNat; omega, posN_cons.2 ⟨by show 1 ≤ 331300000000; omega, posN_cons.2 ⟨by show 1 ≤ v.toNat; omega, posN_cons.2 ⟨by show 1 ≤ 331300000; omega, posN_cons.2 ⟨by show 1 ≤ h.toNat; omega, posN_nil⟩⟩⟩⟩⟩⟩
      have XY := sgn_ge_mul (posN_append.2 ⟨q1, q2⟩) q1 q2 (fun p => ex_append p _ _) X Y
      have XYZ := sgn_ge_mul q4 (posN_append.2 ⟨q1, q2⟩) q3 (fun p => by
        rw [ex_six, ex_append p (_ ++ _) (_ ++ _), ex_append, ex_append, ex_fq, ex_append, ex_append, ex_wv, ex_inv, ex_scL, ex_append, ex_append, fast_same, ef, ew, ex_of p 331300000 2, ex_of p h.toNat (-2), ex_of p h.toNat e, ex_of p 331300000 e, ← he]
        grind) XY Z2
      rw [sgn_ge, (six_P _ _ _ _ _ _).1, (six_P _ _ _ _ _ _).2] at XYZ
      have h3 := pow_le_of (by omega) XYZ
      obtain ⟨a, rfl⟩ := Int.eq_ofNat_of_zero_le (show 0 ≤ u by omega)
      obtain ⟨b, rfl⟩ := Int.eq_ofNat_of_zero_le (show 0 ≤ v by omega)
      obtain ⟨g, rfl⟩ := Int.eq_ofNat_of_zero_le (show 0 ≤ h by omega)
      simp only [Int.toNat_natCast] at h3
      rw [← Int.natCast_mul]
      generalize a * b = ab at *
      omega
theorem fits_hi {A : Nat} {R : Rt} {t0 u u' v v' c h : Int} (hR : ROk R) (hA : 1 ≤ A) (hA2 : A ≤ 1000000) (h1 : -20000 ≤ t0) (h2 : t0 ≤ 50000) (hf : SpanIs (PwF (fqL A t0 t0 R) (fqD R) 1) u u') (hw : SpanIs (PwF (wvL A t0 R) (wvD R) 331300000000) v v')
    (hc : SpanIs (PwF (fastL 0 t0) 2 331300000) c h) : 1000 * c ≤ u' * v' := by
  obtain ⟨hu, X⟩ := span_hi hf
  obtain ⟨hv, Y⟩ := span_hi hw
  by_cases hc0 : c < 1
  · have e : c = 0 := by have := hc.1; omega
    have := Int.mul_nonneg (show 0 ≤ u' by omega) (show 0 ≤ v' by omega)
    rw [e]; omega
  · have Z := span_lo hc (by omega)
    have d1 := hR.d1
    have d2 := hR.d2
    have X2 : 0 ≤ sgnP (invL (fqL A t0 t0 R ++ [(1, fqD R)] ++ [(u'.toNat, -(fqD R))])) := by rw [sgn_inv]; omega
    have Y2 : 0 ≤ sgnP (invL (wvL A t0 R ++ [(331300000000, wvD R)] ++ [(v'.toNat, -(wvD R))])) := by rw [sgn_inv]; omega
    have Z2 : 0 ≤ sgnP (scL R.d (fastL 0 t0 ++ [(331300000, 2)] ++ [(c.toNat, -2)])) := by rw [sgn_scl (by omega)]; omega
    have pf := fq_pos (t := t0) hR hA hA2 h1 h2 h1 h2
    have pw := wv_pos (t0 := t0) hR hA hA2 h1 h2
    have pc := fast_pos (a := 0) (b := t0) (by omega) (by omega) h1 h2
    have q1 := posN_inv (posN_pw (S := 1) (d := fqD R) pf (by omega) (show 1 ≤ u'.toNat by omega))
    have q2 := posN_inv (posN_pw (S := 331300000000) (d := wvD R) pw (by omega) (show 1 ≤ v'.toNat by omega))
    have q3 := posN_scL R.d (posN_pw (S := 331300000) (d := 2) pc (by omega) (show 1 ≤ c.toNat by omega))
    obtain ⟨e, he⟩ : ∃ e : Nat, R.d * 2 = (e : Int) := ⟨(R.d * 2).toNat, by omega⟩
    have ef : fqD R = (e : Int) := by unfold fqD; omega
    have ew : wvD R = (e : Int) := by unfold wvD; omega
    have q4 : posN (invL [(1, (e : Int)), (u'.toNat, -(e : Int)), (331300000000, (e : Int)), (v'.toNat, -(e : Int)), (331300000, -(e : Int)), (c.toNat, (e : Int))]) := posN_inv (by
      refine posN_cons.2 ⟨by show 1 ≤ 1; omega, posN_cons.2 ⟨by show 1 ≤ u'.toNat; omega, posN_cons.2 ⟨by show 1 ≤ 331300000000; omega, posN_cons.2 ⟨by show 1 ≤ v'.toNat; omega, posN_cons.2 ⟨by show 1 ≤ 331300000; omega, posN_cons.2 ⟨by show 1 ≤ c.toNat; omega, posN_nil⟩⟩⟩⟩⟩⟩)
    have XY := sgn_ge_mul (posN_append.2 ⟨q1, q2⟩) q1 q2 (fun p => ex_append p _ _) X2 Y2
    have XYZ := sgn_ge_mul q4 (posN_append.2 ⟨q1, q2⟩) q3 (fun p => by
      rw [ex_inv, ex_six, ex_append p (invL _) (invL _), ex_inv, ex_inv, ex_append, ex_append, ex_fq, ex_append, ex_append, ex_wv, ex_scL, ex_append, ex_append, fast_same, ef, ew, ex_of p 331300000 2, ex_of p c.toNat (-2), ex_of p c.toNat e, ex_of p 331300000 e, ← he]
      grind) XY Z2
    rw [sgn_ge, (invL_P _).1, (invL_P _).2, (six_P _ _ _ _ _ _).1, (six_P _ _ _ _ _ _).2] at XYZ
    have h3 := pow_le_of (by omega) XYZ
    obtain ⟨a, rfl⟩ := Int.eq_ofNat_of_zero_le (show 0 ≤ u' by omega)
    obtain ⟨b, rfl⟩ := Int.eq_ofNat_of_zero_le (show 0 ≤ v' by omega)
    obtain ⟨g, rfl⟩ := Int.eq_ofNat_of_zero_le (show 0 ≤ c by omega)
    simp only [Int.toNat_natCast] at h3
    rw [← Int.natCast_mul]
    generalize a * b = ab at *
    omega
theorem two_ge {x : Int} (h : 0 ≤ x) : 0 ≤ sgnP [(2, x)] := by
  rw [sgn_ge]
  show 2 ^ (-x).toNat * 1 ≤ 2 ^ x.toNat * 1
  rw [show (-x).toNat = 0 by omega]
  simp only [Nat.pow_zero, Nat.mul_one]
  exact Nat.one_le_two_pow
theorem two_le {x : Int} (h : x ≤ 0) : sgnP [(2, x)] ≤ 0 := by
  have h1 := two_ge (x := -x) (by omega)
  have h2 := sgn_inv [(2, -x)]
  have e : invL [(2, -x)] = [(2, x)] := by show [(2, - -x)] = _; rw [Int.neg_neg]
  rw [e] at h2
  omega
theorem drift_two {t0 t m : Int} (h1 : -20000 ≤ t0) (h2 : t0 ≤ 50000) (h3 : -20000 ≤ t) (h4 : t ≤ 50000) (h : CtP (fastL t0 t) 2 m) : 0 ≤ CtF (fastL t0 t) 2 m ∧ CtF (fastL t0 t) 2 (m + 1) < 0 := by
  have pc := fast_pos (a := t0) (b := t) h1 h2 h3 h4
  have pc2 := fast_pos (a := t) (b := t0) h3 h4 h1 h2
  have a1 : 0 ≤ CtF (fastL t0 t) 2 (-1000000000000) := by
    have s1 : 0 ≤ sgnP (invL (scL 1200000 (fastL t t0 ++ [(2, -1)]))) := by
      have := fast_two h3 h4 h1 h2
      rw [sgn_inv, sgn_scl (by omega)]; omega
    have s2 : 0 ≤ sgnP [(2, 1999998800000)] := two_ge (by omega)
    refine sgn_ge_mul (posN_append.2 ⟨posN_scL _ pc, posN_cons.2 ⟨by show 1 ≤ 2; omega, posN_nil⟩⟩) (posN_inv (posN_scL _ (posN_append.2 ⟨pc2, posN_cons.2 ⟨by show 1 ≤ 2; omega, posN_nil⟩⟩))) (posN_cons.2 ⟨by show 1 ≤ 2; omega, posN_nil⟩) (fun p => ?_) s1 s2
    rw [ex_append, ex_scL, ex_inv, ex_scL, ex_append, ex_of p 2 (-1), ex_of p 2 (-(-1000000000000 * 2)), ex_of p 2 1999998800000]
    have e : ex p (fastL t t0) = -ex p (fastL t0 t) := by
      unfold fastL
      simp only [ex, Int.add_zero]
      split <;> split <;> omega
    rw [e]
    grind
  have a2 : CtF (fastL t0 t) 2 1000000000001 < 0 := by
    have s1 : sgnP (scL 1200000 (fastL t0 t ++ [(2, -1)])) < 0 := by rw [sgn_scl (by omega)]; exact fast_two h1 h2 h3 h4
    have s2 : sgnP [(2, -1999998800002)] ≤ 0 := two_le (by omega)
    refine sgn_lt_mul (posN_append.2 ⟨posN_scL _ pc, posN_cons.2 ⟨by show 1 ≤ 2; omega, posN_nil⟩⟩) (posN_scL _ (posN_append.2 ⟨pc, posN_cons.2 ⟨by show 1 ≤ 2; omega, posN_nil⟩⟩)) (posN_cons.2 ⟨by show 1 ≤ 2; omega, posN_nil⟩) (fun p => ?_) s1 s2
    rw [ex_append, ex_scL, ex_scL, ex_append, ex_of p 2 (-1), ex_of p 2 (-(1000000000001 * 2)), ex_of p 2 (-1999998800002)]
    grind
  rcases h with ⟨h5 | h5, -⟩ | ⟨-, -, h5, h6⟩
  · omega
  · omega
  · exact ⟨h5, h6⟩
theorem drift_mono {t0 t t' m n : Int} (h1 : -20000 ≤ t0) (h2 : t0 ≤ 50000) (h3 : -20000 ≤ t) (h4 : t ≤ t') (h5 : t' ≤ 50000) (h : CtP (fastL t0 t) 2 m) (h' : CtP (fastL t0 t') 2 n) : m ≤ n := by
  obtain ⟨a1, a2⟩ := drift_two h1 h2 h3 (by omega) h
  obtain ⟨b1, b2⟩ := drift_two h1 h2 (by omega) h5 h'
  have pc := fast_pos (a := t0) (b := t) h1 h2 h3 (by omega)
  have pc' := fast_pos (a := t0) (b := t') h1 h2 (by omega) h5
  have pt := fast_pos (a := t) (b := t') h3 (by omega) (by omega) h5
  have s : 0 ≤ sgnP (fastL t t') := by
    rw [sgn_ge]
    show ((273150 + t').toNat) ^ 0 * (((273150 + t).toNat) ^ 1 * 1) ≤ ((273150 + t').toNat) ^ 1 * (((273150 + t).toNat) ^ 0 * 1)
    simp only [Nat.pow_zero, Nat.pow_one, Nat.one_mul, Nat.mul_one]
    omega
  have key : 0 ≤ CtF (fastL t0 t') 2 m := by
    refine sgn_ge_mul (posN_append.2 ⟨posN_scL _ pc', posN_cons.2 ⟨by show 1 ≤ 2; omega, posN_nil⟩⟩) (posN_append.2 ⟨posN_scL 1200000 pc, posN_cons.2 ⟨by show 1 ≤ 2; omega, posN_nil⟩⟩) (posN_scL 1200000 pt) (fun p => ?_) a1 (by rw [sgn_scl (by omega)]; exact s)
    rw [ex_append, ex_append, ex_scL, ex_scL, ex_scL]
    have e : ex p (fastL t0 t') = ex p (fastL t0 t) + ex p (fastL t t') := by
      unfold fastL
      simp only [ex, Int.add_zero]
      split <;> split <;> split <;> omega
    rw [e]
    grind
  rcases Int.lt_or_le n m with hc | hc
  · have := floor_anti (l := scL 1200000 (fastL t0 t')) (a := (n + 1) * 2) (b := m * 2) (by omega) key
    have b3 : sgnP (scL 1200000 (fastL t0 t') ++ [(2, -((n + 1) * 2))]) < 0 := b2
    omega
  · exact hc
end Go.Proofs.YtkoghdgfllichaaDoor.Pc
namespace Go.Proofs.YtkoghdgfllichaaDoor.Pc
open Go.RowKit Tp

/-! Bounds of frequencies and wavelengths. -/
theorem lit_sgnM (a S M : Nat) (h : a ^ 2 * (2 ^ 15 * S ^ 2) < M ^ 2) : sgnP [(a, 2), (2, 15), (S, 2), (M, -2)] ≤ 0 := by
  have : sgnP [(a, 2), (2, 15), (S, 2), (M, -2)] < 0 := by
    rw [sgn_lt]
    show a ^ 2 * (2 ^ 15 * (S ^ 2 * (M ^ 0 * 1))) < a ^ 0 * (2 ^ 0 * (S ^ 0 * (M ^ 2 * 1)))
    simp only [Nat.pow_zero, Nat.one_mul, Nat.mul_one]
    exact h
  omega
theorem lit_sgn2M (a S M : Nat) (h : 2 ^ 15 * S ^ 2 < a ^ 2 * M ^ 2) : sgnP [(a, -2), (2, 15), (S, 2), (M, -2)] ≤ 0 := by
  have : sgnP [(a, -2), (2, 15), (S, 2), (M, -2)] < 0 := by
    rw [sgn_lt]
    show a ^ 0 * (2 ^ 15 * (S ^ 2 * (M ^ 0 * 1))) < a ^ 2 * (2 ^ 0 * (S ^ 0 * (M ^ 2 * 1)))
    simp only [Nat.pow_zero, Nat.one_mul, Nat.mul_one]
    exact h
  omega
theorem fq_noM {M : Nat} (hM : 1 ≤ M) {a : Nat} {t0 t : Int} {R : Rt} (hR : ROk R) (ha : 1 ≤ a) (ha2 : a ≤ 1000000) (h1 : -20000 ≤ t0) (h2 : t0 ≤ 50000) (h3 : -20000 ≤ t) (h4 : t ≤ 50000) {S : Nat} (hS : 1 ≤ S) (hq : a ^ 2 * (2 ^ 15 * S ^ 2) < M ^ 2) : PwF (fqL a t0 t R) (fqD R) S (M : Int) < 0 := by
  have d1 := hR.d1
  have hp := fq_pos hR ha ha2 h1 h2 h3 h4
  have hf := fast_pos h1 h2 h3 h4
  unfold PwF
  rw [if_neg (by omega)]
  have hb : sgnP (scL R.d [(a, 2), (2, 15), (S, 2), (M, -2)]) ≤ 0 := by
    rw [sgn_scl (by omega)]
    refine lit_sgnM a S M ?_
    exact hq
  have hc : sgnP (scL 2 (R.v.two (-(7 * R.d))).zl) ≤ 0 := by rw [sgn_scl (by omega)]; exact hR.up
  have hd : sgnP (scL R.d (fastL t0 t ++ [(2, -1)])) < 0 := by rw [sgn_scl (by omega)]; exact fast_two h1 h2 h3 h4
  have p1 : posN (scL R.d [(a, 2), (2, 15), (S, 2), (M, -2)]) := posN_scL _ (posN_cons.2 ⟨ha, posN_cons.2 ⟨by show 1 ≤ 2; omega, posN_cons.2 ⟨hS, posN_cons.2 ⟨hM, posN_nil⟩⟩⟩⟩)
  have p2 : posN (scL 2 (R.v.two (-(7 * R.d))).zl) := posN_scL _ (V6.pos _)
  have p3 : posN (scL R.d (fastL t0 t ++ [(2, -1)])) := posN_scL _ (posN_append.2 ⟨hf, posN_cons.2 ⟨by show 1 ≤ 2; omega, posN_nil⟩⟩)
  have hbc := sgn_le_mul (l := scL R.d [(a, 2), (2, 15), (S, 2), (M, -2)] ++ scL 2 (R.v.two (-(7 * R.d))).zl) (posN_append.2 ⟨p1, p2⟩) p1 p2 (fun p => ex_append p _ _) hb hc
  refine sgn_lt_mul (posN_pw hp hS (by omega)) p3 (posN_append.2 ⟨p1, p2⟩) (fun p => ?_) hd hbc
  rw [ex_append, ex_append, ex_fq, ex_append, ex_scL, ex_append, ex_scL, ex_four, ex_scL, ex_two, ex_of p S, ex_of p (Int.toNat (M : Int)), ex_of p 2 (-1)]
  rw [show (if 2 = p then -(7 * R.d) else 0) = ex p [(2, 1)] * -(7 * R.d) by rw [ex_single]; split <;> simp, show Int.toNat (M : Int) = M from rfl]
  unfold fqD
  generalize ex p [(a, 1)] = A
  generalize ex p [(2, 1)] = B
  generalize ex p [(S, 1)] = C
  generalize ex p [(M, 1)] = E
  generalize ex p R.v.zl = G
  generalize ex p (fastL t0 t) = H
  grind
theorem wv_noM {M : Nat} (hM : 1 ≤ M) {a : Nat} {t0 : Int} {R : Rt} (hR : ROk R) (ha : 100000 ≤ a) (ha2 : a ≤ 1000000) (h1 : -20000 ≤ t0) (h2 : t0 ≤ 50000) (hq : 2 ^ 15 * 331300000000 ^ 2 < a ^ 2 * M ^ 2) : PwF (wvL a t0 R) (wvD R) 331300000000 (M : Int) < 0 := by
  have d1 := hR.d1
  have hp := wv_pos (t0 := t0) hR (by omega) ha2 h1 h2
  have hf := fast_pos (a := 0) (b := t0) (by omega) (by omega) h1 h2
  unfold PwF
  rw [if_neg (by omega)]
  have hb : sgnP (scL R.d [(a, -2), (2, 15), (331300000000, 2), (M, -2)]) ≤ 0 := by
    rw [sgn_scl (by omega)]
    refine lit_sgn2M a 331300000000 M ?_
    exact hq
  have hc : sgnP (scL 2 (invL (R.v.two (7 * R.d)).zl)) ≤ 0 := by
    rw [sgn_scl (by omega)]
    have h3 := hR.lo
    unfold Sg at h3
    rw [sgn_ge] at h3
    have : ¬ (0 < sgnP (invL (R.v.two (7 * R.d)).zl)) := fun h4 => by
      have h5 : dnP (invL (R.v.two (7 * R.d)).zl) < upP (invL (R.v.two (7 * R.d)).zl) := by
        rcases Nat.lt_or_ge (dnP (invL (R.v.two (7 * R.d)).zl)) (upP (invL (R.v.two (7 * R.d)).zl)) with h6 | h6
        · exact h6
        · rcases Nat.lt_or_eq_of_le h6 with h7 | h7
          · rw [sgn_dn h7] at h4; omega
          · rw [sgn_zero h7] at h4; omega
      rw [(invL_P _).1, (invL_P _).2] at h5
      omega
    omega
  have hd : sgnP (scL R.d (fastL 0 t0 ++ [(2, -1)])) < 0 := by rw [sgn_scl (by omega)]; exact fast_two (by omega) (by omega) h1 h2
  have p1 : posN (scL R.d [(a, -2), (2, 15), (331300000000, 2), (M, -2)]) := posN_scL _ (posN_cons.2 ⟨by show 1 ≤ a; omega, posN_cons.2 ⟨by show 1 ≤ 2; omega, posN_cons.2 ⟨by show 1 ≤ 331300000000; omega, posN_cons.2 ⟨hM, posN_nil⟩⟩⟩⟩)
  have p2 : posN (scL 2 (invL (R.v.two (7 * R.d)).zl)) := posN_scL _ (fun x hx => by obtain ⟨y, hy, rfl⟩ := List.mem_map.1 hx; exact V6.pos _ y hy)
  have p3 : posN (scL R.d (fastL 0 t0 ++ [(2, -1)])) := posN_scL _ (posN_append.2 ⟨hf, posN_cons.2 ⟨by show 1 ≤ 2; omega, posN_nil⟩⟩)
  have hbc := sgn_le_mul (l := scL R.d [(a, -2), (2, 15), (331300000000, 2), (M, -2)] ++ scL 2 (invL (R.v.two (7 * R.d)).zl)) (posN_append.2 ⟨p1, p2⟩) p1 p2 (fun p => ex_append p _ _) hb hc
  refine sgn_lt_mul (posN_pw hp (by omega) (by omega)) p3 (posN_append.2 ⟨p1, p2⟩) (fun p => ?_) hd hbc
  rw [ex_append, ex_append, ex_wv, ex_append, ex_scL, ex_append, ex_scL, ex_four, ex_scL, ex_inv, ex_two, ex_of p 331300000000, ex_of p (Int.toNat (M : Int)), ex_of p 2 (-1)]
  rw [show (if 2 = p then 7 * R.d else 0) = ex p [(2, 1)] * (7 * R.d) by rw [ex_single]; split <;> simp, show Int.toNat (M : Int) = M from rfl]
  unfold wvD
  generalize ex p [(a, 1)] = A
  generalize ex p [(2, 1)] = B
  generalize ex p [(331300000000, 1)] = C
  generalize ex p [(M, 1)] = E
  generalize ex p R.v.zl = G
  generalize ex p (fastL 0 t0) = H
  grind
theorem span_below {F : Int → Int} {m k M : Int} (aF : ∀ x y, 0 ≤ x → x < y → 0 ≤ F y → 0 < F x) (h : SpanIs F m k) (h0 : 0 ≤ M) (hM : F M < 0) : 0 ≤ m ∧ m ≤ k ∧ k ≤ M := by
  obtain ⟨f1, f2, f3, f4, f5⟩ := h
  have : m < M := by
    rcases Int.lt_or_le m M with hc | hc
    · exact hc
    · rcases Int.lt_or_le M m with hc2 | hc2
      · have := aF M m h0 hc2 f3; omega
      · have e : m = M := by omega
        rw [e] at f3; omega
  omega
theorem fq_bound {A : Nat} {R : Rt} {t0 t m k : Int} (hR : ROk R) (hA : 1 ≤ A) (hA2 : A ≤ 1000000) (h1 : -20000 ≤ t0) (h2 : t0 ≤ 50000) (h3 : -20000 ≤ t) (h4 : t ≤ 50000) (h : SpanIs (PwF (fqL A t0 t R) (fqD R) 1) m k) : 0 ≤ m ∧ m ≤ k ∧ k ≤ 1000000000 := by
  have hd : 1 ≤ fqD R := by have := hR.d1; unfold fqD; omega
  refine span_below (fun x y a b c => PwF_anti (fq_pos hR hA hA2 h1 h2 h3 h4) hd (by omega) a b c) h (by omega) (fq_noM (M := 1000000000) (by omega) hR hA hA2 h1 h2 h3 h4 (by omega) ?_)
  have i1 : A ^ 2 ≤ 1000000 ^ 2 := Nat.pow_le_pow_left hA2 2
  exact Nat.lt_of_le_of_lt (Nat.mul_le_mul_right _ i1) (by decide)
theorem wv_bound {A : Nat} {R : Rt} {t0 m k : Int} (hR : ROk R) (hA : 100000 ≤ A) (hA2 : A ≤ 1000000) (h1 : -20000 ≤ t0) (h2 : t0 ≤ 50000) (h : SpanIs (PwF (wvL A t0 R) (wvD R) 331300000000) m k) : 0 ≤ m ∧ m ≤ k ∧ k ≤ 1000000000 := by
  have hd : 1 ≤ wvD R := by have := hR.d1; unfold wvD; omega
  refine span_below (fun x y a b c => PwF_anti (wv_pos hR (by omega) hA2 h1 h2) hd (by omega) a b c) h (by omega) (wv_noM (M := 1000000000) (by omega) hR hA hA2 h1 h2 ?_)
  have i1 : 100000 ^ 2 ≤ A ^ 2 := Nat.pow_le_pow_left hA 2
  exact Nat.lt_of_lt_of_le (by decide) (Nat.mul_le_mul_right _ i1)
theorem sp_bound {t m k : Int} (h1 : -20000 ≤ t) (h2 : t ≤ 50000) (h : SpanIs (PwF (fastL 0 t) 2 331300000) m k) : 0 ≤ m ∧ m ≤ k ∧ k ≤ 1000000000 := by
  have pc := fast_pos (a := 0) (b := t) (by omega) (by omega) h1 h2
  refine span_below (fun x y a b c => PwF_anti pc (by omega) (by omega) a b c) h (by omega) ?_
  obtain ⟨n, hn⟩ : ∃ n : Nat, 273150 + t = (n : Int) := ⟨(273150 + t).toNat, by omega⟩
  have hn2 : n ≤ 323150 := by omega
  unfold PwF fastL
  rw [if_neg (by decide), hn]
  simp only [Int.toNat_natCast, List.cons_append, List.nil_append]
  rw [sgn_lt]
  show n ^ 1 * (273150 ^ 0 * (331300000 ^ 2 * (1000000000 ^ 0 * 1))) < n ^ 0 * (273150 ^ 1 * (331300000 ^ 0 * (1000000000 ^ 2 * 1)))
  simp only [Nat.pow_one, Nat.pow_zero, Nat.one_mul, Nat.mul_one]
  omega
end Go.Proofs.YtkoghdgfllichaaDoor.Pc
