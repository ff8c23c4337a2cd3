namespace Go.Proofs.YtkoghdgfllichaaDoor

/-! Factors taken out. -/
def st (p n : Nat) : Nat × Nat := if h : 2 ≤ p ∧ n ≠ 0 ∧ n % p = 0 then ((st p (n / p)).1, (st p (n / p)).2 + 1) else (n, 0)
termination_by n
decreasing_by all_goals exact Nat.div_lt_self (by omega) (by omega)
theorem st_hit {p n : Nat} (hp : 2 ≤ p) (hn : n ≠ 0) (h : n % p = 0) : st p n = ((st p (n / p)).1, (st p (n / p)).2 + 1) := by
  rw [st, dif_pos ⟨hp, hn, h⟩]
theorem st_miss {p n : Nat} (h : n % p ≠ 0) : st p n = (n, 0) := by
  rw [st, dif_neg (fun h2 => h h2.2.2)]
theorem st_spec {p : Nat} (hp : 2 ≤ p) (n : Nat) (hn : n ≠ 0) : n = (st p n).1 * p ^ (st p n).2 ∧ (st p n).1 % p ≠ 0 := by
  induction n using Nat.strongRecOn with
  | _ n ih =>
    by_cases h : n % p = 0
    · have hd : n / p ≠ 0 := by
        intro h0
        have := Nat.div_add_mod n p
        rw [h0, h] at this; simp at this; omega
      obtain ⟨i1, i2⟩ := ih (n / p) (Nat.div_lt_self (by omega) (by omega)) hd
      rw [st_hit hp hn h]
      refine ⟨?_, i2⟩
      show n = (st p (n / p)).1 * p ^ ((st p (n / p)).2 + 1)
      rw [Nat.pow_succ, ← Nat.mul_assoc, ← i1]
      have := Nat.div_add_mod n p
      rw [h, Nat.add_zero, Nat.mul_comm] at this
      exact this.symm
    · rw [st_miss h]
      exact ⟨by simp, h⟩
theorem st_unique {p r k n : Nat} (hp : 2 ≤ p) (hr : r % p ≠ 0) (h : n = r * p ^ k) : st p n = (r, k) := by
  induction k generalizing n with
  | zero =>
    rw [Nat.pow_zero, Nat.mul_one] at h
    subst h
    exact st_miss hr
  | succ k ih =>
    have hr0 : r ≠ 0 := by rintro rfl; simp at hr
    have e : n = r * p ^ k * p := by rw [h, Nat.pow_succ, Nat.mul_assoc]
    have hn : n ≠ 0 := by rw [e]; exact Nat.mul_ne_zero (Nat.mul_ne_zero hr0 (Nat.ne_of_gt (Nat.pow_pos (by omega)))) (by omega)
    have hm : n % p = 0 := by rw [e]; exact Nat.mul_mod_left _ _
    have hd : n / p = r * p ^ k := by rw [e]; exact Nat.mul_div_cancel _ (by omega)
    rw [st_hit hp hn hm, hd, ih rfl]
/-- A number that divides a factor of each product that it divides. -/
def primeN (p : Nat) : Prop := 2 ≤ p ∧ ∀ a b : Nat, a % p ≠ 0 → b % p ≠ 0 → a * b % p ≠ 0
theorem st_mul {p a b : Nat} (hp : primeN p) (ha : a ≠ 0) (hb : b ≠ 0) : st p (a * b) = ((st p a).1 * (st p b).1, (st p a).2 + (st p b).2) := by
  obtain ⟨a1, a2⟩ := st_spec hp.1 a ha
  obtain ⟨b1, b2⟩ := st_spec hp.1 b hb
  refine st_unique hp.1 (hp.2 _ _ a2 b2) ?_
  rw [Nat.pow_add]
  have : (st p a).1 * (st p b).1 * (p ^ (st p a).2 * p ^ (st p b).2) = ((st p a).1 * p ^ (st p a).2) * ((st p b).1 * p ^ (st p b).2) := by ac_rfl
  rw [this, ← a1, ← b1]
theorem st_pos {p n : Nat} (hp : 2 ≤ p) (hn : n ≠ 0) : (st p n).1 ≠ 0 := by
  have := (st_spec hp n hn).2
  intro h; rw [h] at this; simp at this
theorem prime_of (p : Nat) (hp : 2 ≤ p) (h : ∀ x : Fin p, ∀ y : Fin p, x.val ≠ 0 → y.val ≠ 0 → x.val * y.val % p ≠ 0) : primeN p := by
  refine ⟨hp, fun a b ha hb => ?_⟩
  rw [Nat.mul_mod]
  exact h ⟨a % p, Nat.mod_lt _ (by omega)⟩ ⟨b % p, Nat.mod_lt _ (by omega)⟩ ha hb
theorem prime2 : primeN 2 := prime_of 2 (by omega) (by decide)
theorem prime3 : primeN 3 := prime_of 3 (by omega) (by decide)
theorem prime5 : primeN 5 := prime_of 5 (by omega) (by decide)
theorem prime7 : primeN 7 := prime_of 7 (by omega) (by decide +kernel)
theorem prime11 : primeN 11 := prime_of 11 (by omega) (by decide +kernel)
theorem prime13 : primeN 13 := prime_of 13 (by omega) (by decide +kernel)
/-- Several numbers taken out, one after the other: what is left, and how often each was there. -/
def sts : List Nat → Nat → Nat × List Nat
  | [], n => (n, [])
  | p :: r, n => ((sts r (st p n).1).1, (st p n).2 :: (sts r (st p n).1).2)
theorem sts_mul : ∀ (ps : List Nat), (∀ p ∈ ps, primeN p) → ∀ a b : Nat, a ≠ 0 → b ≠ 0 → (sts ps (a * b)).1 = (sts ps a).1 * (sts ps b).1 ∧ (sts ps (a * b)).2 = List.zipWith (· + ·) (sts ps a).2 (sts ps b).2
  | [], _, a, b, _, _ => ⟨rfl, rfl⟩
  | p :: r, h, a, b, ha, hb => by
    have hp := h p (by simp)
    have e := st_mul hp ha hb
    obtain ⟨i1, i2⟩ := sts_mul r (fun q hq => h q (by simp [hq])) (st p a).1 (st p b).1 (st_pos hp.1 ha) (st_pos hp.1 hb)
    constructor
    · show (sts r (st p (a * b)).1).1 = _
      rw [e]; exact i1
    · show (st p (a * b)).2 :: (sts r (st p (a * b)).1).2 = ((st p a).2 + (st p b).2) :: List.zipWith (· + ·) (sts r (st p a).1).2 (sts r (st p b).1).2
      rw [e]; rw [i2]
theorem sts_pos : ∀ (ps : List Nat), (∀ p ∈ ps, primeN p) → ∀ n : Nat, n ≠ 0 → (sts ps n).1 ≠ 0
  | [], _, _, h => h
  | p :: r, h, n, hn => sts_pos r (fun q hq => h q (by simp [hq])) _ (st_pos (h p (by simp)).1 hn)
theorem sts_len : ∀ (ps : List Nat) (n : Nat), (sts ps n).2.length = ps.length
  | [], _ => rfl
  | p :: r, n => by show ((sts r (st p n).1).2).length + 1 = _; rw [sts_len r]; rfl
theorem st_dvd {p n : Nat} (hp : 2 ≤ p) (hn : n ≠ 0) : (st p n).1 ∣ n := ⟨p ^ (st p n).2, (st_spec hp n hn).1⟩
theorem sts_dvd : ∀ (ps : List Nat), (∀ p ∈ ps, primeN p) → ∀ n : Nat, n ≠ 0 → (sts ps n).1 ∣ n
  | [], _, n, _ => Nat.dvd_refl n
  | p :: r, h, n, hn => Nat.dvd_trans (sts_dvd r (fun q hq => h q (by simp [hq])) _ (st_pos (h p (by simp)).1 hn)) (st_dvd (h p (by simp)).1 hn)
/-- What is left of both is equal just if nothing is left of them in lowest terms; the differences are those of the lowest terms. -/
theorem sts_low (ps : List Nat) (h : ∀ p ∈ ps, primeN p) {a b : Nat} (ha : a ≠ 0) (hb : b ≠ 0) :
    ((sts ps a).1 = (sts ps b).1 ↔ (sts ps (a / Nat.gcd a b)).1 = 1 ∧ (sts ps (b / Nat.gcd a b)).1 = 1) ∧
    List.zipWith (fun x y : Nat => (x : Int) - (y : Int)) (sts ps a).2 (sts ps b).2 = List.zipWith (fun x y : Nat => (x : Int) - (y : Int)) (sts ps (a / Nat.gcd a b)).2 (sts ps (b / Nat.gcd a b)).2 := by
  have hg : 0 < Nat.gcd a b := Nat.gcd_pos_of_pos_left _ (by omega)
  obtain ⟨x, hx⟩ := Nat.gcd_dvd_left a b
  obtain ⟨y, hy⟩ := Nat.gcd_dvd_right a b
  have hc := Nat.coprime_div_gcd_div_gcd hg
  have ex : a / Nat.gcd a b = x := by
    conv => lhs; lhs; rw [hx]
    exact Nat.mul_div_cancel_left _ hg
  have ey : b / Nat.gcd a b = y := by
    conv => lhs; lhs; rw [hy]
    exact Nat.mul_div_cancel_left _ hg
  rw [ex, ey] at hc ⊢
  clear ex ey
  generalize Nat.gcd a b = g at *
  have hx0 : x ≠ 0 := by rintro rfl; simp at hx; omega
  have hy0 : y ≠ 0 := by rintro rfl; simp at hy; omega
  have hg0 : g ≠ 0 := by omega
  obtain ⟨m1, m2⟩ := sts_mul ps h g x hg0 hx0
  obtain ⟨k1, k2⟩ := sts_mul ps h g y hg0 hy0
  rw [← hx] at m1 m2
  rw [← hy] at k1 k2
  rw [m1, k1, m2, k2]
  constructor
  · constructor
    · intro e
      have e2 : (sts ps x).1 = (sts ps y).1 := Nat.eq_of_mul_eq_mul_left (Nat.pos_of_ne_zero (sts_pos ps h g hg0)) e
      have hc2 : Nat.Coprime (sts ps x).1 (sts ps y).1 := (hc.coprime_dvd_left (sts_dvd ps h x hx0)).coprime_dvd_right (sts_dvd ps h y hy0)
      rw [← e2] at hc2 ⊢
      have := (Nat.coprime_self _).1 hc2
      exact ⟨this, this⟩
    · rintro ⟨e1, e2⟩
      rw [e1, e2]
  · have hl1 := sts_len ps g
    have hl2 := sts_len ps x
    have hl3 := sts_len ps y
    generalize (sts ps g).2 = G at *
    generalize (sts ps x).2 = X at *
    generalize (sts ps y).2 = Y at *
    apply List.ext_getElem?
    intro i
    rw [List.getElem?_zipWith, List.getElem?_zipWith, List.getElem?_zipWith, List.getElem?_zipWith]
    by_cases hi : i < ps.length
    · rw [List.getElem?_eq_getElem (l := G) (by omega), List.getElem?_eq_getElem (l := X) (by omega), List.getElem?_eq_getElem (l := Y) (by omega)]
      simp only [Option.some.injEq, Int.natCast_add]
      omega
    · rw [List.getElem?_eq_none (l := G) (by omega), List.getElem?_eq_none (l := X) (by omega), List.getElem?_eq_none (l := Y) (by omega)]
end Go.Proofs.YtkoghdgfllichaaDoor
