import Derived.Lib.Hide
namespace Go.Proofs.YtlababdfdjjjaaaGreatDoor

/-! Natural numbers as limbs. -/
def LB : Nat := 4294967296
theorem LB_eq : LB = 4294967296 := rfl
theorem LB_pos : 0 < LB := by decide
theorem LB_two : 2 ≤ LB := by decide
def val : List Nat → Nat
  | [] => 0
  | x :: r => x + LB * val r
def okL (l : List Nat) : Prop := ∀ x ∈ l, x < LB
theorem okL_nil : okL [] := by intro x h; cases h
theorem okL_cons {x : Nat} {l : List Nat} : okL (x :: l) ↔ x < LB ∧ okL l := by simp [okL]
theorem okL_append {a b : List Nat} : okL (a ++ b) ↔ okL a ∧ okL b := by
  simp only [okL, List.mem_append]
  constructor
  · intro h; exact ⟨fun x hx => h x (.inl hx), fun x hx => h x (.inr hx)⟩
  · rintro ⟨h1, h2⟩ x (hx | hx)
    · exact h1 x hx
    · exact h2 x hx
theorem okL_take {l : List Nat} (h : okL l) (k : Nat) : okL (l.take k) := fun x hx => h x (List.mem_of_mem_take hx)
theorem okL_drop {l : List Nat} (h : okL l) (k : Nat) : okL (l.drop k) := fun x hx => h x (List.mem_of_mem_drop hx)
theorem okL_zero (n : Nat) : okL (List.replicate n 0) := fun x hx => by rw [(List.mem_replicate.1 hx).2]; exact LB_pos
theorem val_append (a b : List Nat) : val (a ++ b) = val a + LB ^ a.length * val b := by
  induction a with
  | nil => simp [val]
  | cons x r ih =>
    simp only [List.cons_append, val, ih, List.length_cons, Nat.pow_succ]
    rw [Nat.mul_add, ← Nat.mul_assoc, Nat.mul_comm LB (LB ^ r.length), Nat.add_assoc]
theorem val_zero (n : Nat) : val (List.replicate n 0) = 0 := by
  induction n with
  | zero => rfl
  | succ n ih => rw [List.replicate_succ, val, ih, Nat.mul_zero]
theorem val_snoc (a : List Nat) (x : Nat) : val (a ++ [x]) = val a + LB ^ a.length * x := by
  rw [val_append]; simp [val]
theorem pow_pos' (n : Nat) : 0 < LB ^ n := Nat.pow_pos LB_pos
theorem val_lt : ∀ {l : List Nat}, okL l → val l < LB ^ l.length
  | [], _ => by simp [val]
  | x :: r, h => by
    obtain ⟨hx, hr⟩ := okL_cons.1 h
    have ih := val_lt hr
    have h1 : LB * (val r + 1) ≤ LB * LB ^ r.length := Nat.mul_le_mul_left _ ih
    rw [Nat.mul_add, Nat.mul_one] at h1
    rw [val, List.length_cons, Nat.pow_succ, Nat.mul_comm (LB ^ r.length)]
    omega
theorem val_split (l : List Nat) (k : Nat) (hk : k ≤ l.length) : val l = val (l.take k) + LB ^ k * val (l.drop k) := by
  conv => lhs; rw [← List.take_append_drop k l]
  rw [val_append, List.length_take, Nat.min_eq_left hk]
theorem cons_lb {x y a b : Nat} (hx : x < LB) (hy : y < LB) (h : x + LB * a = y + LB * b) : x = y ∧ a = b := by
  have h1 : (x + LB * a) % LB = (y + LB * b) % LB := by rw [h]
  rw [Nat.add_mul_mod_self_left, Nat.add_mul_mod_self_left, Nat.mod_eq_of_lt hx, Nat.mod_eq_of_lt hy] at h1
  subst h1
  exact ⟨rfl, Nat.eq_of_mul_eq_mul_left LB_pos (Nat.add_left_cancel h)⟩
theorem val_inj : ∀ {a b : List Nat}, okL a → okL b → a.length = b.length → val a = val b → a = b
  | [], [], _, _, _, _ => rfl
  | [], _ :: _, _, _, h, _ => by simp at h
  | _ :: _, [], _, _, h, _ => by simp at h
  | x :: r, y :: s, ha, hb, hl, hv => by
    obtain ⟨hx, hr⟩ := okL_cons.1 ha
    obtain ⟨hy, hs⟩ := okL_cons.1 hb
    obtain ⟨h1, h2⟩ := cons_lb hx hy hv
    rw [h1, val_inj hr hs (by simpa using hl) h2]

/-- The limbs of a number. -/
def dg (n : Nat) : List Nat := if n = 0 then [] else (n % LB) :: dg (n / LB)
termination_by n
decreasing_by exact Nat.div_lt_self (by omega) LB_two
theorem dg_zero : dg 0 = [] := by rw [dg]; rfl
theorem dg_pos {n : Nat} (h : n ≠ 0) : dg n = (n % LB) :: dg (n / LB) := by rw [dg, if_neg h]
theorem val_dg (n : Nat) : val (dg n) = n := by
  induction n using Nat.strongRecOn with
  | _ n ih =>
    by_cases h : n = 0
    · subst h; rw [dg_zero]; rfl
    · rw [dg_pos h, val, ih _ (Nat.div_lt_self (by omega) LB_two)]
      exact Nat.mod_add_div n LB
theorem ok_dg (n : Nat) : okL (dg n) := by
  induction n using Nat.strongRecOn with
  | _ n ih =>
    by_cases h : n = 0
    · subst h; rw [dg_zero]; exact okL_nil
    · rw [dg_pos h, okL_cons]
      exact ⟨Nat.mod_lt _ LB_pos, ih _ (Nat.div_lt_self (by omega) LB_two)⟩
theorem dg_inj {m n : Nat} (h : dg m = dg n) : m = n := by rw [← val_dg m, h, val_dg]
theorem dg_nil {n : Nat} : dg n = [] ↔ n = 0 := by
  constructor
  · intro h; rw [← val_dg n, h]; rfl
  · rintro rfl; exact dg_zero
/-- Right: the last limb is not 0. -/
def rightL (l : List Nat) : Prop := okL l ∧ l.getLast? ≠ some 0
theorem right_dg (n : Nat) : rightL (dg n) := by
  refine ⟨ok_dg n, ?_⟩
  induction n using Nat.strongRecOn with
  | _ n ih =>
    by_cases h : n = 0
    · subst h; rw [dg_zero]; simp
    · rw [dg_pos h]
      by_cases h2 : n / LB = 0
      · rw [h2, dg_zero]
        have h3 := Nat.mod_add_div n LB
        rw [h2] at h3
        simp; omega
      · have hne : dg (n / LB) ≠ [] := fun e => h2 (dg_nil.1 e)
        rw [List.getLast?_cons, List.getLast?_eq_some_getLast hne]
        have := ih _ (Nat.div_lt_self (by omega) LB_two)
        rw [List.getLast?_eq_some_getLast hne] at this
        simpa using this
theorem dg_val {l : List Nat} (h : rightL l) : dg (val l) = l := by
  obtain ⟨h1, h2⟩ := h
  induction l with
  | nil => exact dg_zero
  | cons x r ih =>
    obtain ⟨hx, hr⟩ := okL_cons.1 h1
    have hv : val (x :: r) = x + LB * val r := rfl
    by_cases hr0 : r = []
    · subst hr0
      have hx0 : x ≠ 0 := by simpa using h2
      rw [hv, show val [] = 0 from rfl, Nat.mul_zero, Nat.add_zero, dg_pos hx0, Nat.mod_eq_of_lt hx, Nat.div_eq_of_lt hx, dg_zero]
    · have h3 : r.getLast? ≠ some 0 := by
        rw [List.getLast?_cons, List.getLast?_eq_some_getLast hr0] at h2
        rw [List.getLast?_eq_some_getLast hr0]; simpa using h2
      have ih' := ih hr h3
      have hp : val r ≠ 0 := fun e => by rw [e, dg_zero] at ih'; exact hr0 ih'.symm
      have hn : x + LB * val r ≠ 0 := by
        have := Nat.mul_pos LB_pos (Nat.pos_of_ne_zero hp); omega
      rw [hv, dg_pos hn, Nat.add_mul_mod_self_left, Nat.mod_eq_of_lt hx, Nat.add_mul_div_left _ _ LB_pos, Nat.div_eq_of_lt hx, Nat.zero_add, ih']
theorem dg_le {n k : Nat} : (dg n).length ≤ k ↔ n < LB ^ k := by
  induction k generalizing n with
  | zero => simp [dg_nil]
  | succ k ih =>
    by_cases h : n = 0
    · subst h; rw [dg_zero]; simp [pow_pos']
    · rw [dg_pos h, List.length_cons, Nat.succ_le_succ_iff, ih, Nat.pow_succ, Nat.div_lt_iff_lt_mul LB_pos]
theorem lt_dg (n : Nat) : n < LB ^ (dg n).length := dg_le.1 (Nat.le_refl _)
theorem dg_gt {n k : Nat} : k < (dg n).length ↔ LB ^ k ≤ n := by
  have := @dg_le n k; omega
theorem le_dg {n : Nat} (h : n ≠ 0) : LB ^ ((dg n).length - 1) ≤ n := by
  apply dg_gt.1
  have : (dg n).length ≠ 0 := fun e => h (dg_nil.1 (List.eq_nil_of_length_eq_zero e))
  omega
theorem dg_mono {m n : Nat} (h : m ≤ n) : (dg m).length ≤ (dg n).length := dg_le.2 (Nat.lt_of_le_of_lt h (lt_dg n))
theorem dg_len_lt {m n : Nat} (h : (dg m).length < (dg n).length) : m < n := by
  rcases Nat.lt_or_ge m n with h1 | h1
  · exact h1
  · have := dg_mono h1; omega
/-- Trimmed: without zero limbs at the end. -/
theorem trim_step {l : List Nat} {k : Nat} (h0 : l[k]? = some 0) (h : val (l.take (k + 1)) = val l) : val (l.take k) = val l := by
  rw [List.take_add_one, h0] at h
  rw [← h]; simp [val_append, val]
theorem trim_stop {l : List Nat} {k x : Nat} (ho : okL l) (_hk : k < l.length) (h0 : l[k]? = some x) (hx : x ≠ 0) (h : val (l.take (k + 1)) = val l) : l.take (k + 1) = dg (val l) := by
  rw [← h]
  symm
  apply dg_val
  refine ⟨okL_take ho _, ?_⟩
  rw [List.take_add_one, h0]; simpa using hx
theorem trim_end {l : List Nat} (h : val (l.take 0) = val l) : l.take 0 = dg (val l) := by
  rw [← h]; simp [val, dg_zero]
/-- The limb at a place. -/
theorem limb_val : ∀ {l : List Nat} (_ : okL l) (k : Nat), l[k]?.getD 0 = val l / LB ^ k % LB
  | [], _, k => by simp [val]
  | x :: r, h, 0 => by
    obtain ⟨hx, _⟩ := okL_cons.1 h
    simp [val, Nat.mod_eq_of_lt hx]
  | x :: r, h, k + 1 => by
    obtain ⟨hx, hr⟩ := okL_cons.1 h
    rw [List.getElem?_cons_succ, limb_val hr k, val, Nat.pow_succ, Nat.mul_comm (LB ^ k), ← Nat.div_div_eq_div_mul, Nat.add_mul_div_left _ _ LB_pos, Nat.div_eq_of_lt hx, Nat.zero_add]
theorem val_take_mod {l : List Nat} (h : okL l) (k : Nat) : val (l.take k) = val l % LB ^ k := by
  rcases Nat.le_total k l.length with hk | hk
  · rw [val_split l k hk, Nat.add_mul_mod_self_left]
    have := val_lt (okL_take h k)
    rw [List.length_take, Nat.min_eq_left hk] at this
    exact (Nat.mod_eq_of_lt this).symm
  · rw [List.take_of_length_le hk]
    exact (Nat.mod_eq_of_lt (Nat.lt_of_lt_of_le (val_lt h) (Nat.pow_le_pow_right LB_pos hk))).symm
theorem val_drop_div {l : List Nat} (h : okL l) (k : Nat) : val (l.drop k) = val l / LB ^ k := by
  rcases Nat.le_total k l.length with hk | hk
  · rw [val_split l k hk, Nat.add_mul_div_left _ _ (pow_pos' k)]
    have := val_lt (okL_take h k)
    rw [List.length_take, Nat.min_eq_left hk] at this
    rw [Nat.div_eq_of_lt this, Nat.zero_add]
  · rw [List.drop_eq_nil_of_le hk]
    exact (Nat.div_eq_of_lt (Nat.lt_of_lt_of_le (val_lt h) (Nat.pow_le_pow_right LB_pos hk))).symm

/-! Order. -/
theorem val_lt_take {a b : List Nat} {k x y : Nat} (ha : okL a) (_hb : okL b) (hxa : a[k]? = some x) (hyb : b[k]? = some y) (hl : a.length = b.length) (hd : a.drop (k + 1) = b.drop (k + 1)) (h : x < y) : val a < val b := by
  obtain ⟨ka, ea⟩ := List.getElem?_eq_some_iff.1 hxa
  obtain ⟨kb, eb⟩ := List.getElem?_eq_some_iff.1 hyb
  rw [val_split a k (by omega), val_split b k (by omega)]
  have h1 : a.drop k = x :: a.drop (k + 1) := by rw [List.drop_eq_getElem_cons ka, ea]
  have h2 : b.drop k = y :: b.drop (k + 1) := by rw [List.drop_eq_getElem_cons kb, eb]
  have h3 := val_lt (okL_take ha k)
  rw [List.length_take, Nat.min_eq_left (by omega)] at h3
  rw [h1, h2, hd, val, val]
  generalize val (b.drop (k + 1)) = t
  have h4 : LB ^ k * (x + LB * t) + LB ^ k ≤ LB ^ k * (y + LB * t) := by
    rw [← Nat.mul_succ]; exact Nat.mul_le_mul_left _ (by omega)
  omega
theorem val_eq_drop {a b : List Nat} (h : a.drop 0 = b.drop 0) : val a = val b := by simp at h; rw [h]
theorem drop_step {a b : List Nat} {k x : Nat} (hxa : a[k]? = some x) (hyb : b[k]? = some x) (hd : a.drop (k + 1) = b.drop (k + 1)) : a.drop k = b.drop k := by
  obtain ⟨ka, ea⟩ := List.getElem?_eq_some_iff.1 hxa
  obtain ⟨kb, eb⟩ := List.getElem?_eq_some_iff.1 hyb
  rw [List.drop_eq_getElem_cons ka, List.drop_eq_getElem_cons kb, ea, eb, hd]
end Go.Proofs.YtlababdfdjjjaaaGreatDoor
namespace Go.Proofs.YtlababdfdjjjaaaGreatDoor

/-! A limb of a quotient is guessed from three limbs by two (Knuth's D). -/
theorem guess_less {a b a3 b2 K n : Nat} (ea : a < (a3 + 1) * K) (eb : b2 * K ≤ b) (hb : 0 < b) (h : a3 < n * b2) : a / b < n := by
  rw [Nat.div_lt_iff_lt_mul hb]
  have h1 : (a3 + 1) * K ≤ n * b2 * K := Nat.mul_le_mul_right _ h
  have h2 : n * (b2 * K) ≤ n * b := Nat.mul_le_mul_left _ eb
  rw [Nat.mul_assoc] at h1
  omega
theorem guess_near {a b a3 b2 K n : Nat} (ea : a3 * K ≤ a) (eb : b < (b2 + 1) * K) (hb2 : LB * K ≤ b) (hb : 0 < b) (hn : n * b2 ≤ a3) (hnB : n < LB) : n ≤ a / b + 1 := by
  have h6 : a < (a / b + 1) * b := by rw [Nat.mul_comm]; exact Nat.lt_mul_div_succ a hb
  generalize a / b = q at *
  rcases Nat.lt_or_ge (q + 1) n with h | h
  · exfalso
    have h1 : n * b < n * ((b2 + 1) * K) := Nat.mul_lt_mul_of_pos_left eb (by omega)
    have h2 : n * ((b2 + 1) * K) = n * b2 * K + n * K := by rw [Nat.add_mul, Nat.one_mul, Nat.mul_add, Nat.mul_assoc]
    have h3 : n * b2 * K ≤ a3 * K := Nat.mul_le_mul_right _ hn
    have h4 : n * K ≤ LB * K := Nat.mul_le_mul_right _ (by omega)
    have h5 : (q + 2) * b ≤ n * b := Nat.mul_le_mul_right _ (by omega)
    rw [Nat.add_mul] at h5 h6
    omega
  · exact h
theorem guess_cond {high low top next n rest : Nat} (h : n * high + rest = top) : n * (high * LB + low) ≤ top * LB + next ↔ n * low ≤ rest * LB + next := by
  subst h
  rw [Nat.mul_add, Nat.add_mul, Nat.mul_assoc]; omega

/-! Some of Euclid's steps at once (Lehmer). -/
structure Lehm (X Y p q r s x y : Nat) (odd : Bool) : Prop where
  hX : X = s * x + q * y
  hY : Y = r * x + p * y
  det : if odd then q * r = p * s + 1 else p * s = q * r + 1
  rs : r ≤ s
  pr : p + r ≤ q + s
  yx : y ≤ x
theorem lehm_start {X Y : Nat} (h : Y ≤ X) : Lehm X Y 1 0 0 1 X Y false := ⟨by omega, by omega, by simp, by omega, by omega, h⟩
theorem lehm_then {X Y p q r s x y : Nat} {odd : Bool} (h : Lehm X Y p q r s x y odd) (hy : 0 < y) :
    Lehm X Y r s (p + x / y * r) (q + x / y * s) y (x % y) (!odd) := by
  obtain ⟨hX, hY, hd, h1, h2, h3⟩ := h
  have hn : 1 ≤ x / y := (Nat.one_le_div_iff hy).2 h3
  have hm := Nat.div_add_mod x y
  have hlt := Nat.mod_lt x hy
  generalize x / y = n at *
  generalize x % y = m at *
  have hr : n * r ≤ n * s := Nat.mul_le_mul_left _ h1
  obtain ⟨k, rfl⟩ : ∃ k, n = k + 1 := ⟨n - 1, by omega⟩
  have hr' : k * r ≤ k * s := Nat.mul_le_mul_left _ h1
  refine ⟨?_, ?_, ?_, ?_, ?_, by omega⟩
  · rw [hX, ← hm]; grind
  · rw [hY, ← hm]; grind
  · cases odd
    · simp only [Bool.false_eq_true, if_false, Bool.not_false, if_true] at hd ⊢
      grind
    · simp only [Bool.false_eq_true, if_false, Bool.not_true, if_true] at hd ⊢
      grind
  · rw [Nat.add_mul, Nat.add_mul]; omega
  · rw [Nat.add_mul, Nat.add_mul]; omega

/-- What the steps make of a and b. -/
def StepsTo (a b p q r s : Nat) (odd : Bool) (a' b' : Nat) : Prop :=
  if odd then q * b = p * a + a' ∧ r * a = s * b + b' else p * a = q * b + a' ∧ s * b = r * a + b'
theorem steps_back {a b p q r s a' b' : Nat} {odd : Bool} (hd : if odd then q * r = p * s + 1 else p * s = q * r + 1) (h : StepsTo a b p q r s odd a' b') : a = s * a' + q * b' ∧ b = r * a' + p * b' := by
  unfold StepsTo at h
  cases odd
  · simp only [Bool.false_eq_true, if_false] at hd h
    obtain ⟨h1, h2⟩ := h
    constructor <;> grind
  · simp only [if_true] at hd h
    obtain ⟨h1, h2⟩ := h
    constructor <;> grind
theorem steps_gcd {a b p q r s a' b' : Nat} {odd : Bool} (hd : if odd then q * r = p * s + 1 else p * s = q * r + 1) (h : StepsTo a b p q r s odd a' b') : Nat.gcd a' b' = Nat.gcd a b := by
  obtain ⟨e1, e2⟩ := steps_back hd h
  apply Nat.dvd_antisymm
  · apply Nat.dvd_gcd
    · rw [e1]; exact Nat.dvd_add (Nat.dvd_trans (Nat.gcd_dvd_left _ _) (Nat.dvd_mul_left _ _)) (Nat.dvd_trans (Nat.gcd_dvd_right _ _) (Nat.dvd_mul_left _ _))
    · rw [e2]; exact Nat.dvd_add (Nat.dvd_trans (Nat.gcd_dvd_left _ _) (Nat.dvd_mul_left _ _)) (Nat.dvd_trans (Nat.gcd_dvd_right _ _) (Nat.dvd_mul_left _ _))
  · have da : ∀ k, Nat.gcd a b ∣ k * a := fun k => Nat.dvd_trans (Nat.gcd_dvd_left _ _) (Nat.dvd_mul_left _ _)
    have db : ∀ k, Nat.gcd a b ∣ k * b := fun k => Nat.dvd_trans (Nat.gcd_dvd_right _ _) (Nat.dvd_mul_left _ _)
    unfold StepsTo at h
    cases odd
    · simp only [Bool.false_eq_true, if_false] at h
      exact Nat.dvd_gcd ((Nat.dvd_add_right (db q)).1 (h.1 ▸ da p)) ((Nat.dvd_add_right (da r)).1 (h.2 ▸ db s))
    · simp only [if_true] at h
      exact Nat.dvd_gcd ((Nat.dvd_add_right (da p)).1 (h.1 ▸ db q)) ((Nat.dvd_add_right (db s)).1 (h.2 ▸ da r))
/-- The steps that the highest bits tell are steps with the numbers. -/
theorem steps_sure {a b T p q r s x y : Nat} {odd : Bool} (hT : 0 < T) (h : Lehm (a / T) (b / T) p q r s x y odd) (hs : s ≤ y) (hq : q + s ≤ x - y) :
    ∃ a' b', StepsTo a b p q r s odd a' b' ∧ b' ≤ a' := by
  obtain ⟨hX, hY, hd, h1, h2, h3⟩ := h
  have ea := Nat.div_add_mod a T
  have eb := Nat.div_add_mod b T
  have la := Nat.mod_lt a hT
  have lb := Nat.mod_lt b hT
  generalize a / T = X at *
  generalize b / T = Y at *
  generalize a % T = α at *
  generalize b % T = β at *
  -- the remainders of both, in T-parts
  have k1 : q * β ≤ q * T := Nat.mul_le_mul_left _ (by omega)
  have k2 : p * α ≤ p * T := Nat.mul_le_mul_left _ (by omega)
  have k3 : s * β ≤ s * T := Nat.mul_le_mul_left _ (by omega)
  have k4 : r * α ≤ r * T := Nat.mul_le_mul_left _ (by omega)
  have m1 : s * T ≤ y * T := Nat.mul_le_mul_right _ hs
  have m2 : r * T ≤ s * T := Nat.mul_le_mul_right _ h1
  have m3 : (q + s + y) * T ≤ x * T := Nat.mul_le_mul_right _ (by omega)
  have m4 : (p + r) * T ≤ (q + s) * T := Nat.mul_le_mul_right _ h2
  rw [Nat.add_mul, Nat.add_mul] at m3
  rw [Nat.add_mul, Nat.add_mul] at m4
  cases odd
  · simp only [Bool.false_eq_true, if_false] at hd
    have e1 : p * a + q * β = q * b + p * α + x * T := by subst hX hY; rw [← ea, ← eb]; grind
    have e2 : s * b + r * α = r * a + s * β + y * T := by subst hX hY; rw [← ea, ← eb]; grind
    refine ⟨p * a - q * b, s * b - r * a, ?_, by omega⟩
    unfold StepsTo
    simp only [Bool.false_eq_true, if_false]
    omega
  · simp only [if_true] at hd
    have e1 : q * b + p * α = p * a + q * β + x * T := by subst hX hY; rw [← ea, ← eb]; grind
    have e2 : r * a + s * β = s * b + r * α + y * T := by subst hX hY; rw [← ea, ← eb]; grind
    refine ⟨q * b - p * a, r * a - s * b, ?_, by omega⟩
    unfold StepsTo
    simp only [if_true]
    omega

/-! Newton's steps to a root. -/
theorem newton_ge (r x k : Nat) : (k + 1) * r * x ^ k ≤ r ^ (k + 1) + k * x ^ (k + 1) := by
  induction k with
  | zero => simp
  | succ k ih =>
    have h1 : r * ((k + 1) * r * x ^ k) ≤ r * (r ^ (k + 1) + k * x ^ (k + 1)) := Nat.mul_le_mul_left _ ih
    have h2 : 2 * (r * x) ≤ r * r + x * x := by
      rcases Nat.le_total r x with h | h
      · obtain ⟨d, rfl⟩ := Nat.exists_eq_add_of_le h; grind
      · obtain ⟨d, rfl⟩ := Nat.exists_eq_add_of_le h; grind
    have h3 : (k + 1) * x ^ k * (2 * (r * x)) ≤ (k + 1) * x ^ k * (r * r + x * x) := Nat.mul_le_mul_left _ h2
    have e1 : x ^ (k + 1) = x ^ k * x := Nat.pow_succ ..
    have e2 : x ^ (k + 2) = x ^ k * x * x := by rw [Nat.pow_succ, Nat.pow_succ]
    have e3 : r ^ (k + 2) = r ^ (k + 1) * r := Nat.pow_succ ..
    rw [show k + 1 + 1 = k + 2 from rfl, e1, e2, e3]
    rw [e1] at h1
    generalize x ^ k = z at *
    generalize r ^ (k + 1) = t at *
    grind
/-- One step from above is not below the root. -/
theorem newton_above {a r x k : Nat} (hx : 0 < x) (hr : r ^ (k + 1) ≤ a) : r ≤ (k * x + a / x ^ k) / (k + 1) := by
  rw [Nat.le_div_iff_mul_le (by omega)]
  have h := newton_ge r x k
  have hp : 0 < x ^ k := Nat.pow_pos hx
  rcases Nat.le_total (r * (k + 1)) (k * x) with h1 | h1
  · exact Nat.le_trans h1 (Nat.le_add_right _ _)
  · obtain ⟨d, hd⟩ := Nat.exists_eq_add_of_le h1
    have : d ≤ a / x ^ k := by
      rw [Nat.le_div_iff_mul_le hp]
      have e1 : x ^ (k + 1) = x ^ k * x := Nat.pow_succ ..
      rw [e1] at h
      generalize x ^ k = z at *
      have : (k + 1) * r * z = (k * x + d) * z := by rw [← hd, Nat.mul_comm r]
      rw [this, Nat.add_mul] at h
      have : k * x * z = k * (z * x) := by rw [Nat.mul_assoc, Nat.mul_comm x z]
      omega
    omega
/-- A step from above the root goes down. -/
theorem newton_down {a x k : Nat} (hx : 0 < x) (h : a < x ^ (k + 1)) : (k * x + a / x ^ k) / (k + 1) < x := by
  rw [Nat.div_lt_iff_lt_mul (by omega)]
  have h1 : a / x ^ k < x := by
    rw [Nat.div_lt_iff_lt_mul (Nat.pow_pos hx), Nat.mul_comm]; rw [Nat.pow_succ] at h; exact h
  rw [Nat.mul_add, Nat.mul_one, Nat.mul_comm x k]
  omega
/-- r is the k-th root of a, rounded down. -/
def IsRoot (a k r : Nat) : Prop := r ^ k ≤ a ∧ a < (r + 1) ^ k
theorem pow_lt_pow_left' {x y k : Nat} (hk : 0 < k) (h : x < y) : x ^ k < y ^ k := Nat.pow_lt_pow_left h (by omega)
theorem root_unique {a k r s : Nat} (h : IsRoot a k r) (h' : IsRoot a k s) : r = s := by
  obtain ⟨h1, h2⟩ := h
  obtain ⟨h3, h4⟩ := h'
  rcases Nat.lt_trichotomy r s with hl | hl | hl
  · have := Nat.pow_le_pow_left (show r + 1 ≤ s by omega) k; omega
  · exact hl
  · have := Nat.pow_le_pow_left (show s + 1 ≤ r by omega) k; omega
/-- Newton's end: a step does not go down, and no number above the root was left out. -/
theorem newton_end {a x r k : Nat} (hx : 0 < x) (hr : IsRoot a (k + 1) r) (hge : r ≤ x) (hstop : x ≤ (k * x + a / x ^ k) / (k + 1)) : x = r := by
  have h1 : x ^ (k + 1) ≤ a := by
    rcases Nat.lt_or_ge a (x ^ (k + 1)) with h | h
    · have := newton_down hx h; omega
    · exact h
  have h2 : x < r + 1 := by
    rcases Nat.lt_or_ge x (r + 1) with h | h
    · exact h
    · have := Nat.pow_le_pow_left h (k + 1); have := hr.2; omega
  omega
end Go.Proofs.YtlababdfdjjjaaaGreatDoor
namespace Go.Proofs.YtlababdfdjjjaaaGreatDoor

/-! Shifts by less than a limb. -/
theorem LB_two_pow {k : Nat} (hk : k ≤ 32) : LB = 2 ^ k * 2 ^ (32 - k) := by
  rw [← Nat.pow_add, show k + (32 - k) = 32 by omega]; rfl
def shrL (M N : Nat) : List Nat → List Nat
  | [] => []
  | x :: r => (x / M + (r.headD 0 * N) % LB) :: shrL M N r
theorem shrL_len (M N : Nat) (l : List Nat) : (shrL M N l).length = l.length := by
  induction l with
  | nil => rfl
  | cons x r ih => rw [shrL, List.length_cons, List.length_cons, ih]
theorem val_head (l : List Nat) : ∃ t, val l = l.headD 0 + LB * t := by
  cases l with
  | nil => exact ⟨0, rfl⟩
  | cons x r => exact ⟨val r, rfl⟩
theorem val_shrL {M N : Nat} (hM : 0 < M) (hMN : LB = M * N) : ∀ l : List Nat, val (shrL M N l) = val l / M
  | [] => by simp [shrL, val]
  | x :: r => by
    rw [shrL, val, val, val_shrL hM hMN r]
    obtain ⟨t, ht⟩ := val_head r
    rw [ht]
    generalize r.headD 0 = y
    have e1 : (x + LB * (y + LB * t)) / M = x / M + N * (y + LB * t) := by
      rw [hMN, Nat.mul_assoc, Nat.add_mul_div_left _ _ hM]
    have e2 : y * N % LB = N * (y % M) := by
      rw [hMN, Nat.mul_comm y N, Nat.mul_comm M N, Nat.mul_mod_mul_left]
    have e3 : (y + LB * t) / M = y / M + N * t := by
      rw [hMN, Nat.mul_assoc, Nat.add_mul_div_left _ _ hM]
    rw [e1, e2, e3]
    have e4 := Nat.div_add_mod y M
    rw [hMN]
    generalize y / M = a at *
    generalize y % M = b at *
    subst e4
    grind
theorem shrL_ok {M N : Nat} (hM : 0 < M) (hMN : LB = M * N) : ∀ {l : List Nat}, okL l → okL (shrL M N l)
  | [], _ => okL_nil
  | x :: r, h => by
    obtain ⟨hx, hr⟩ := okL_cons.1 h
    rw [shrL, okL_cons]
    refine ⟨?_, shrL_ok hM hMN hr⟩
    have hx2 : x / M < N := by rw [Nat.div_lt_iff_lt_mul hM, Nat.mul_comm, ← hMN]; exact hx
    have e2 : r.headD 0 * N % LB = N * (r.headD 0 % M) := by
      rw [hMN, Nat.mul_comm _ N, Nat.mul_comm M N, Nat.mul_mod_mul_left]
    have h3 := Nat.mod_lt (r.headD 0) hM
    rw [e2]
    have h4 : N * (r.headD 0 % M) + N ≤ N * M := by rw [← Nat.mul_succ]; exact Nat.mul_le_mul_left _ h3
    rw [hMN, Nat.mul_comm M N]; omega
theorem shrL_at (M N : Nat) : ∀ (l : List Nat) (k : Nat), k < l.length → (shrL M N l)[k]? = some (l[k]?.getD 0 / M + (l[k + 1]?.getD 0 * N) % LB)
  | [], k, h => by simp at h
  | x :: r, 0, _ => by
    cases r <;> simp [shrL]
  | x :: r, k + 1, h => by
    have := shrL_at M N r k (by simpa using h)
    simpa [shrL] using this
theorem shrL_cons (M N x : Nat) (r : List Nat) : shrL M N (x :: r) = (x / M + (r.headD 0 * N) % LB) :: shrL M N r := rfl

def shlL (M N : Nat) : Nat → List Nat → List Nat
  | c, [] => [c]
  | c, x :: r => ((x * M) % LB + c) :: shlL M N (x / N) r
theorem shlL_len (M N : Nat) : ∀ (l : List Nat) (c : Nat), (shlL M N c l).length = l.length + 1
  | [], _ => rfl
  | x :: r, c => by rw [shlL, List.length_cons, shlL_len M N r, List.length_cons]
theorem val_shlL {M N : Nat} (hM : 0 < M) (hMN : LB = M * N) : ∀ (l : List Nat) (c : Nat), val (shlL M N c l) = M * val l + c
  | [], c => by simp [shlL, val]
  | x :: r, c => by
    rw [shlL, val, val, val_shlL hM hMN r]
    have e1 : x / N = x * M / LB := by
      rw [hMN, Nat.mul_comm x M, Nat.mul_div_mul_left _ _ hM]
    rw [e1]
    have e2 := Nat.mod_add_div (x * M) LB
    generalize x * M / LB = a at *
    generalize x * M % LB = b at *
    rw [Nat.mul_add, Nat.mul_add, Nat.mul_comm M x, ← e2]
    grind
theorem shlL_ok {M N : Nat} (hM : 0 < M) (hN : 0 < N) (hMN : LB = M * N) : ∀ {l : List Nat} {c : Nat}, okL l → c < M → okL (shlL M N c l)
  | [], c, _, hc => by
    rw [shlL, okL_cons]
    refine ⟨?_, okL_nil⟩
    have : M * 1 ≤ M * N := Nat.mul_le_mul_left _ hN
    rw [hMN]; omega
  | x :: r, c, h, hc => by
    obtain ⟨hx, hr⟩ := okL_cons.1 h
    rw [shlL, okL_cons]
    refine ⟨?_, shlL_ok hM hN hMN hr (by rw [Nat.div_lt_iff_lt_mul hN, ← hMN]; exact hx)⟩
    have e2 : x * M % LB = M * (x % N) := by
      rw [hMN, Nat.mul_comm x M, Nat.mul_mod_mul_left]
    have h3 := Nat.mod_lt x hN
    rw [e2]
    have h4 : M * (x % N) + M ≤ M * N := by rw [← Nat.mul_succ]; exact Nat.mul_le_mul_left _ h3
    rw [hMN]; omega
theorem shlL_at (M N : Nat) : ∀ (l : List Nat) (c k : Nat), k ≤ l.length → (shlL M N c l)[k]? = some ((l[k]?.getD 0 * M) % LB + (if k = 0 then c else l[k - 1]?.getD 0 / N))
  | [], c, k, h => by
    have : k = 0 := by simpa using h
    subst this; simp [shlL]
  | x :: r, c, 0, _ => by simp [shlL]
  | x :: r, c, 1, h => by
    have := shlL_at M N r (x / N) 0 (by omega)
    simpa [shlL] using this
  | x :: r, c, k + 2, h => by
    have := shlL_at M N r (x / N) (k + 1) (by simpa using h)
    simpa [shlL] using this

/-! The number of bits. -/
def bitsOf (n : Nat) : Nat := if n = 0 then 0 else Nat.log2 n + 1
theorem bits_zero : bitsOf 0 = 0 := rfl
theorem bits_lt (n : Nat) : n < 2 ^ bitsOf n := by
  unfold bitsOf
  split
  · omega
  · exact Nat.lt_log2_self
theorem bits_le {n : Nat} (h : n ≠ 0) : 2 ^ (bitsOf n - 1) ≤ n := by
  unfold bitsOf
  rw [if_neg h, Nat.add_sub_cancel]; exact Nat.log2_self_le h
theorem bits_unique {n k : Nat} (h1 : 2 ^ k ≤ n) (h2 : n < 2 ^ (k + 1)) : bitsOf n = k + 1 := by
  have hn : n ≠ 0 := by have := Nat.two_pow_pos k; omega
  unfold bitsOf
  rw [if_neg hn, Nat.add_right_cancel_iff]
  exact (Nat.log2_eq_iff hn).2 ⟨h1, h2⟩
theorem bits_pos {n : Nat} (h : n ≠ 0) : 0 < bitsOf n := by unfold bitsOf; rw [if_neg h]; omega
theorem bits_le_iff {n k : Nat} : bitsOf n ≤ k ↔ n < 2 ^ k := by
  constructor
  · intro h; exact Nat.lt_of_lt_of_le (bits_lt n) (Nat.pow_le_pow_right (by omega) h)
  · intro h
    by_cases hn : n = 0
    · subst hn; rw [bits_zero]; omega
    · rcases Nat.lt_or_ge k (bitsOf n) with h1 | h1
      · have h2 := bits_le hn
        have h3 : 2 ^ k ≤ 2 ^ (bitsOf n - 1) := Nat.pow_le_pow_right (by omega) (by omega)
        omega
      · exact h1
theorem LBpow (k : Nat) : LB ^ k = 2 ^ (32 * k) := by rw [Nat.pow_mul]; rfl
/-- The bits of the last limb, and those of the limbs before it. -/
theorem bits_top {l : List Nat} {x : Nat} (h : okL l) (hx : x ≠ 0) : bitsOf (val (l ++ [x])) = 32 * l.length + bitsOf x := by
  have h1 := val_lt h
  have h2 := bits_le hx
  have h3 := bits_lt x
  obtain ⟨b, hb⟩ : ∃ b, bitsOf x = b + 1 := ⟨bitsOf x - 1, by have := bits_pos hx; omega⟩
  rw [hb] at h2 h3 ⊢
  rw [Nat.add_sub_cancel] at h2
  rw [show 32 * l.length + (b + 1) = (32 * l.length + b) + 1 by omega]
  rw [val_snoc]
  rw [LBpow] at h1 ⊢
  apply bits_unique
  · rw [Nat.pow_add]
    have := Nat.mul_le_mul_left (2 ^ (32 * l.length)) h2
    omega
  · rw [Nat.add_assoc, Nat.pow_add]
    have := Nat.mul_le_mul_left (2 ^ (32 * l.length)) (show x + 1 ≤ 2 ^ (b + 1) by omega)
    rw [Nat.mul_add] at this
    omega
end Go.Proofs.YtlababdfdjjjaaaGreatDoor
