import Derived.Test.YtkoghdgfllichaaDoorRGA
import Derived.Test.YtkoghdgfllichaaDoorRO1
namespace Go.Proofs.YtkoghdgfllichaaDoor

theorem sts6_of {n n1 n2 n3 n4 n5 n6 a0 a1 a2 a3 a4 a5 : Nat} (h0 : n = n1 * 2 ^ a0) (r0 : n1 % 2 ≠ 0) (h1 : n1 = n2 * 3 ^ a1) (r1 : n2 % 3 ≠ 0) (h2 : n2 = n3 * 5 ^ a2) (r2 : n3 % 5 ≠ 0) (h3 : n3 = n4 * 7 ^ a3) (r3 : n4 % 7 ≠ 0) (h4 : n4 = n5 * 11 ^ a4) (r4 : n5 % 11 ≠ 0) (h5 : n5 = n6 * 13 ^ a5) (r5 : n6 % 13 ≠ 0) :
    sts ps6 n = (n6, [a0, a1, a2, a3, a4, a5]) := by
  have e0 := st_unique (p := 2) (by omega) r0 h0
  have e1 := st_unique (p := 3) (by omega) r1 h1
  have e2 := st_unique (p := 5) (by omega) r2 h2
  have e3 := st_unique (p := 7) (by omega) r3 h3
  have e4 := st_unique (p := 11) (by omega) r4 h4
  have e5 := st_unique (p := 13) (by omega) r5 h5
  unfold ps6
  simp only [sts, e0, e1, e2, e3, e4, e5]
theorem cents_val {v : V6} {s d m M : Int} {b : Bool} {er : Int} {B : Nat} (hd : 0 < d) (hs : 0 ≤ s) (hB : ∀ n ∈ v.l, n.natAbs ≤ B) (hf : 24 * (B : Int) * s < 1000000000000 * d)
    (hw : (er = 0 ∧ FlIs v s d m ∧ b = (Fl v s d m == 0) ∧ -1000000000000 ≤ m ∧ m ≤ 1000000000000) ∨ (er = 7 ∧ m = 0 ∧ b = false ∧ (Fl v s d (-1000000000000) < 0 ∨ 0 ≤ Fl v s d 1000000000001))) (hM : FlIs v s d M) : er = 0 ∧ m = M ∧ b = (Fl v s d M == 0) := by
  rcases hw with ⟨h1, h2, h3, -⟩ | ⟨-, -, -, h3⟩
  · have := h2.unique hd hM
    subst this
    exact ⟨h1, rfl, h3⟩
  · exfalso
    have e : (1000000000000 : Int) * d < 1000000000001 * d := Int.mul_lt_mul_of_pos_right (by omega) hd
    have f1 := Fl_far hB hs hf
    have f2 := Fl_far hB hs (Int.lt_trans hf e)
    rcases h3 with h3 | h3
    · have := f1.1; omega
    · have := f2.2; omega
def fifthV : V6 := ⟨-1, 1, 0, 0, 0, 0⟩
theorem fifth_Fl : 0 < Fl fifthV 1200000 1 701955 := by
  unfold Fl Sg
  rw [sgn_up]
  · omega
  · decide +kernel
theorem fifth_is : FlIs fifthV 1200000 1 701955 := ⟨by have := fifth_Fl; omega, by
  unfold Fl Sg
  rw [sgn_lt]
  decide +kernel⟩
end Go.Proofs.YtkoghdgfllichaaDoor
namespace Go.Proofs.YtkoghdgfllichaaDoor

/-! What the law on Cents wants. -/
theorem gcd_fold (d a k : Int) : Nat.gcd d.natAbs (a + -(k * d)).natAbs = Nat.gcd d.natAbs a.natAbs := by
  apply Nat.dvd_antisymm
  · refine Nat.dvd_gcd (Nat.gcd_dvd_left _ _) ?_
    have h1 : ((Nat.gcd d.natAbs (a + -(k * d)).natAbs : Nat) : Int) ∣ d := Int.dvd_natAbs.1 (Int.natCast_dvd_natCast.2 (Nat.gcd_dvd_left _ _))
    have h2 : ((Nat.gcd d.natAbs (a + -(k * d)).natAbs : Nat) : Int) ∣ (a + -(k * d)) := Int.dvd_natAbs.1 (Int.natCast_dvd_natCast.2 (Nat.gcd_dvd_right _ _))
    have h3 := Int.dvd_add h2 (Int.dvd_trans h1 (Int.dvd_mul_left k d))
    rw [show a + -(k * d) + k * d = a by omega] at h3
    exact Int.natCast_dvd_natCast.1 (Int.dvd_natAbs.2 h3)
  · refine Nat.dvd_gcd (Nat.gcd_dvd_left _ _) ?_
    have h1 : ((Nat.gcd d.natAbs a.natAbs : Nat) : Int) ∣ d := Int.dvd_natAbs.1 (Int.natCast_dvd_natCast.2 (Nat.gcd_dvd_left _ _))
    have h2 : ((Nat.gcd d.natAbs a.natAbs : Nat) : Int) ∣ a := Int.dvd_natAbs.1 (Int.natCast_dvd_natCast.2 (Nat.gcd_dvd_right _ _))
    have h3 := Int.dvd_add h2 (Int.dvd_neg.2 (Int.dvd_trans h1 (Int.dvd_mul_left k d)))
    exact Int.natCast_dvd_natCast.1 (Int.dvd_natAbs.2 h3)
theorem g_two (v : V6) (d k : Int) : (v.two (-(k * d))).g d = v.g d := by
  unfold V6.g
  show gl [v.b, v.c, v.d, v.e, v.f] (Nat.gcd d.natAbs (v.a + -(k * d)).natAbs) = gl [v.b, v.c, v.d, v.e, v.f] (Nat.gcd d.natAbs v.a.natAbs)
  rw [gcd_fold]
theorem gs_pos {v : V6} {d : Int} (hd : 0 < d) : 0 < v.gs d := by
  have : 0 < v.g d := gl_pos (by omega)
  unfold V6.gs
  rw [if_neg (by omega)]
  omega
/-- The product that Mul returns, in floors. -/
theorem both_mul {x y : Rt} {m n t s : Int} {R : Rt × Int} (hx : x.Ok) (hy : y.Ok) (hR : R = lowW (timesW x y 1).1 (timesW x y 1).2) (h0 : R.2 = 0) (h1 : FlIs x.v s x.d m) (h2 : FlIs y.v s y.d n) (h3 : FlIs R.1.v s R.1.d t) :
    (t = m + n ∨ t = m + n + 1) ∧ (Fl x.v s x.d m = 0 → Fl y.v s y.d n = 0 → Fl R.1.v s R.1.d t = 0 ∧ t = m + n) := by
  have hxd := hx.bds.2.1
  have hyd := hy.bds.2.1
  have hD : (0 : Int) < x.d * y.d := Int.mul_pos (by omega) (by omega)
  subst hR
  obtain ⟨e1, ok⟩ := lowW_ok (v := (timesW x y 1).1) (d := (timesW x y 1).2) (by show x.d * y.d ≠ 0; omega) h0
  rw [e1] at h3 ⊢
  have hq := quo_back (v := (timesW x y 1).1) (d := (timesW x y 1).2)
  have hg : 0 < (timesW x y 1).1.gs (timesW x y 1).2 := gs_pos hD
  refine FlIs.mul (x := x.v) (y := y.v) (z := (lowR (timesW x y 1).1 (timesW x y 1).2).v) (D := (timesW x y 1).1.gs (timesW x y 1).2) (by omega) (by omega) (by have := ok.bds.2.1; omega) hg ?_ hq.2 h1 h2 h3
  show V6.scl _ ((timesW x y 1).1.quo _) = _
  rw [hq.1]
  unfold timesW
  rw [Int.one_mul]
theorem both_cmp {x y : Rt} {m n s : Int} (hs : 0 < s) (hx : x.Ok) (hy : y.Ok) (h1 : FlIs x.v s x.d m) (h2 : FlIs y.v s y.d n) :
    (Sg (timesW x y (-1)).1 < 0 → m ≤ n) ∧ (0 < Sg (timesW x y (-1)).1 → n ≤ m) ∧ (Sg (timesW x y (-1)).1 = 0 → m = n ∧ (Fl x.v s x.d m = 0 ↔ Fl y.v s y.d n = 0)) := by
  have hxd := hx.bds.2.1
  have hyd := hy.bds.2.1
  have e : (timesW x y (-1)).1 = (V6.scl y.d x.v).add (V6.scl (-1) (V6.scl x.d y.v)) := by
    unfold timesW V6.scl V6.add
    apply V6.eq <;> simp only <;> grind
  have e2 : V6.scl (-1) (timesW x y (-1)).1 = (V6.scl x.d y.v).add (V6.scl (-1) (V6.scl y.d x.v)) := by
    unfold timesW V6.scl V6.add
    apply V6.eq <;> simp only <;> grind
  refine ⟨fun h => ?_, fun h => ?_, fun h => ?_⟩
  · refine FlIs.cmp hs (by omega) (by omega) h2 h1 ?_
    rw [← e2, Sg_neg]; omega
  · refine FlIs.cmp hs (by omega) (by omega) h1 h2 ?_
    rw [← e]; omega
  · refine FlIs.same hs (by omega) (by omega) h1 h2 ?_
    rw [← e]; exact h
theorem fold_ok {x : Rt} {k : Int} (hx : x.Ok) (hf : (⟨x.v.two (-(k * x.d)), x.d⟩ : Rt).fits = true) : (⟨x.v.two (-(k * x.d)), x.d⟩ : Rt).Ok := ⟨hf, by show (x.v.two (-(k * x.d))).g x.d = 1; rw [g_two]; exact hx.low⟩
/-- The floor of a folded ratio is found without an error. -/
theorem fold_fl {v : V6} {d k m x : Int} {b : Bool} {er : Int} (hd : 1 ≤ d) (hk : FlIs v 1 d k) (h : FlIs v 1200000 d m) (hw : (er = 0 ∧ FlIs (v.two (-(k * d))) 1200000 d x ∧ b = (Fl (v.two (-(k * d))) 1200000 d x == 0) ∧ -1000000000000 ≤ x ∧ x ≤ 1000000000000) ∨ (er = 7 ∧ x = 0 ∧ b = false ∧ (Fl (v.two (-(k * d))) 1200000 d (-1000000000000) < 0 ∨ 0 ≤ Fl (v.two (-(k * d))) 1200000 d 1000000000001))) :
    er = 0 ∧ x = m - 1200000 * k ∧ 0 ≤ x ∧ x < 1200000 ∧ b = (Fl v 1200000 d m == 0) := by
  have hd0 : (0 : Int) < d := Int.lt_of_lt_of_le (by decide) hd
  have h12 : (0 : Int) < 1200000 := by decide
  obtain ⟨h1, h2, h3⟩ := FlIs.fold h12 hd0 hk h
  rcases hw with ⟨a1, a2, a3, -⟩ | ⟨-, -, -, a3⟩
  · have e := a2.unique hd0 h1
    subst e
    rw [Fl_fold] at a3
    exact ⟨a1, rfl, h2, h3, a3⟩
  · exfalso
    rcases a3 with a3 | a3
    · have := Fl_anti hd0 (show -1000000000000 ≤ m - 1200000 * k by omega) h1.1
      omega
    · have := Fl_anti hd0 (show m - 1200000 * k + 1 ≤ 1000000000001 by omega) a3
      have := h1.2
      omega
end Go.Proofs.YtkoghdgfllichaaDoor
