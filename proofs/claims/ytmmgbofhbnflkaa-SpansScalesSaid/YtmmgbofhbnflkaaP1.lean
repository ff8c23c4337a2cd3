import Derived.Lib.Hide
namespace Go.Proofs.Ytmmgbofhbnflkaa

/-! Natural numbers as limbs. -/
def LB : Nat := 4294967296
theorem LB_eq : LB = 4294967296 := rfl
theorem LB_pos : 0 < LB := by decide
theorem LB_two : 2 ≤ LB := by decide
def val : List Nat → Nat
  | [] => 0
  | x :: r => x + LB * val r
def okL (l : List Nat) : Prop := ∀ x ∈ l, x < LB
theorem okL_nil : okL [] := by intro x h; cases h
theorem okL_cons {x : Nat} {l : List Nat} : okL (x :: l) ↔ x < LB ∧ okL l := by simp [okL]
theorem okL_append {a b : List Nat} : okL (a ++ b) ↔ okL a ∧ okL b := by
  simp only [okL, List.mem_append]
  constructor
  · intro h; exact ⟨fun x hx => h x (.inl hx), fun x hx => h x (.inr hx)⟩
  · rintro ⟨h1, h2⟩ x (hx | hx)
    · exact h1 x hx
    · exact h2 x hx
theorem okL_take {l : List Nat} (h : okL l) (k : Nat) : okL (l.take k) := fun x hx => h x (List.mem_of_mem_take hx)
theorem okL_drop {l : List Nat} (h : okL l) (k : Nat) : okL (l.drop k) := fun x hx => h x (List.mem_of_mem_drop hx)
theorem okL_zero (n : Nat) : okL (List.replicate n 0) := fun x hx => by rw [(List.mem_replicate.1 hx).2]; exact LB_pos
theorem val_append (a b : List Nat) : val (a ++ b) = val a + LB ^ a.length * val b := by
  induction a with
  | nil => simp [val]
  | cons x r ih =>
    simp only [List.cons_append, val, ih, List.length_cons, Nat.pow_succ]
    rw [Nat.mul_add, ← Nat.mul_assoc, Nat.mul_comm LB (LB ^ r.length), Nat.add_assoc]
theorem val_zero (n : Nat) : val (List.replicate n 0) = 0 := by
  induction n with
  | zero => rfl
  | succ n ih => rw [List.replicate_succ, val, ih, Nat.mul_zero]
theorem val_snoc (a : List Nat) (x : Nat) : val (a ++ [x]) = val a + LB ^ a.length * x := by
  rw [val_append]; simp [val]
theorem pow_pos' (n : Nat) : 0 < LB ^ n := Nat.pow_pos LB_pos
theorem val_lt : ∀ {l : List Nat}, okL l → val l < LB ^ l.length
  | [], _ => by simp [val]
  | x :: r, h => by
    obtain ⟨hx, hr⟩ := okL_cons.1 h
    have ih := val_lt hr
    have h1 : LB * (val r + 1) ≤ LB * LB ^ r.length := Nat.mul_le_mul_left _ ih
    rw [Nat.mul_add, Nat.mul_one] at h1
    rw [val, List.length_cons, Nat.pow_succ, Nat.mul_comm (LB ^ r.length)]
    omega
theorem val_split (l : List Nat) (k : Nat) (hk : k ≤ l.length) : val l = val (l.take k) + LB ^ k * val (l.drop k) := by
  conv => lhs; rw [← List.take_append_drop k l]
  rw [val_append, List.length_take, Nat.min_eq_left hk]
theorem cons_lb {x y a b : Nat} (hx : x < LB) (hy : y < LB) (h : x + LB * a = y + LB * b) : x = y ∧ a = b := by
  have h1 : (x + LB * a) % LB = (y + LB * b) % LB := by rw [h]
  rw [Nat.add_mul_mod_self_left, Nat.add_mul_mod_self_left, Nat.mod_eq_of_lt hx, Nat.mod_eq_of_lt hy] at h1
  subst h1
  exact ⟨rfl, Nat.eq_of_mul_eq_mul_left LB_pos (Nat.add_left_cancel h)⟩
theorem val_inj : ∀ {a b : List Nat}, okL a → okL b → a.length = b.length → val a = val b → a = b
  | [], [], _, _, _, _ => rfl
  | [], _ :: _, _, _, h, _ => by simp at h
  | _ :: _, [], _, _, h, _ => by simp at h
  | x :: r, y :: s, ha, hb, hl, hv => by
    obtain ⟨hx, hr⟩ := okL_cons.1 ha
    obtain ⟨hy, hs⟩ := okL_cons.1 hb
    obtain ⟨h1, h2⟩ := cons_lb hx hy hv
    rw [h1, val_inj hr hs (by simpa using hl) h2]

/-- The limbs of a number. -/
def dg (n : Nat) : List Nat := if n = 0 then [] else (n % LB) :: dg (n / LB)
termination_by n
decreasing_by exact Nat.div_lt_self (by omega) LB_two
theorem dg_zero : dg 0 = [] := by rw [dg]; rfl
theorem dg_pos {n : Nat} (h : n ≠ 0) : dg n = (n % LB) :: dg (n / LB) := by rw [dg, if_neg h]
theorem val_dg (n : Nat) : val (dg n) = n := by
  induction n using Nat.strongRecOn with
  | _ n ih =>
    by_cases h : n = 0
    · subst h; rw [dg_zero]; rfl
    · rw [dg_pos h, val, ih _ (Nat.div_lt_self (by omega) LB_two)]
      exact Nat.mod_add_div n LB
theorem ok_dg (n : Nat) : okL (dg n) := by
  induction n using Nat.strongRecOn with
  | _ n ih =>
    by_cases h : n = 0
    · subst h; rw [dg_zero]; exact okL_nil
    · rw [dg_pos h, okL_cons]
      exact ⟨Nat.mod_lt _ LB_pos, ih _ (Nat.div_lt_self (by omega) LB_two)⟩
theorem dg_inj {m n : Nat} (h : dg m = dg n) : m = n := by rw [← val_dg m, h, val_dg]
theorem dg_nil {n : Nat} : dg n = [] ↔ n = 0 := by
  constructor
  · intro h; rw [← val_dg n, h]; rfl
  · rintro rfl; exact dg_zero
/-- Right: the last limb is not 0. -/
def rightL (l : List Nat) : Prop := okL l ∧ l.getLast? ≠ some 0
theorem right_dg (n : Nat) : rightL (dg n) := by
  refine ⟨ok_dg n, ?_⟩
  induction n using Nat.strongRecOn with
  | _ n ih =>
    by_cases h : n = 0
    · subst h; rw [dg_zero]; simp
    · rw [dg_pos h]
      by_cases h2 : n / LB = 0
      · rw [h2, dg_zero]
        have h3 := Nat.mod_add_div n LB
        rw [h2] at h3
        simp; omega
      · have hne : dg (n / LB) ≠ [] := fun e => h2 (dg_nil.1 e)
        rw [List.getLast?_cons, List.getLast?_eq_some_getLast hne]
        have := ih _ (Nat.div_lt_self (by omega) LB_two)
        rw [List.getLast?_eq_some_getLast hne] at this
        simpa using this
theorem dg_val {l : List Nat} (h : rightL l) : dg (val l) = l := by
  obtain ⟨h1, h2⟩ := h
  induction l with
  | nil => exact dg_zero
  | cons x r ih =>
    obtain ⟨hx, hr⟩ := okL_cons.1 h1
    have hv : val (x :: r) = x + LB * val r := rfl
    by_cases hr0 : r = []
    · subst hr0
      have hx0 : x ≠ 0 := by simpa using h2
      rw [hv, show val [] = 0 from rfl, Nat.mul_zero, Nat.add_zero, dg_pos hx0, Nat.mod_eq_of_lt hx, Nat.div_eq_of_lt hx, dg_zero]
    · have h3 : r.getLast? ≠ some 0 := by
        rw [List.getLast?_cons, List.getLast?_eq_some_getLast hr0] at h2
        rw [List.getLast?_eq_some_getLast hr0]; simpa using h2
      have ih' := ih hr h3
      have hp : val r ≠ 0 := fun e => by rw [e, dg_zero] at ih'; exact hr0 ih'.symm
      have hn : x + LB * val r ≠ 0 := by
        have := Nat.mul_pos LB_pos (Nat.pos_of_ne_zero hp); omega
      rw [hv, dg_pos hn, Nat.add_mul_mod_self_left, Nat.mod_eq_of_lt hx, Nat.add_mul_div_left _ _ LB_pos, Nat.div_eq_of_lt hx, Nat.zero_add, ih']
theorem dg_le {n k : Nat} : (dg n).length ≤ k ↔ n < LB ^ k := by
  induction k generalizing n with
  | zero => simp [dg_nil]
  | succ k ih =>
    by_cases h : n = 0
    · subst h; rw [dg_zero]; simp [pow_pos']
    · rw [dg_pos h, List.length_cons, Nat.succ_le_succ_iff, ih, Nat.pow_succ, Nat.div_lt_iff_lt_mul LB_pos]
theorem lt_dg (n : Nat) : n < LB ^ (dg n).length := dg_le.1 (Nat.le_refl _)
theorem dg_gt {n k : Nat} : k < (dg n).length ↔ LB ^ k ≤ n := by
  have := @dg_le n k; omega
theorem le_dg {n : Nat} (h : n ≠ 0) : LB ^ ((dg n).length - 1) ≤ n := by
  apply dg_gt.1
  have : (dg n).length ≠ 0 := fun e => h (dg_nil.1 (List.eq_nil_of_length_eq_zero e))
  omega
theorem dg_mono {m n : Nat} (h : m ≤ n) : (dg m).length ≤ (dg n).length := dg_le.2 (Nat.lt_of_le_of_lt h (lt_dg n))
theorem dg_len_lt {m n : Nat} (h : (dg m).length < (dg n).length) : m < n := by
  rcases Nat.lt_or_ge m n with h1 | h1
  · exact h1
  · have := dg_mono h1; omega
/-- Trimmed: without zero limbs at the end. -/
theorem trim_step {l : List Nat} {k : Nat} (h0 : l[k]? = some 0) (h : val (l.take (k + 1)) = val l) : val (l.take k) = val l := by
  rw [List.take_add_one, h0] at h
  rw [← h]; simp [val_append, val]
theorem trim_stop {l : List Nat} {k x : Nat} (ho : okL l) (_hk : k < l.length) (h0 : l[k]? = some x) (hx : x ≠ 0) (h : val (l.take (k + 1)) = val l) : l.take (k + 1) = dg (val l) := by
  rw [← h]
  symm
  apply dg_val
  refine ⟨okL_take ho _, ?_⟩
  rw [List.take_add_one, h0]; simpa using hx
theorem trim_end {l : List Nat} (h : val (l.take 0) = val l) : l.take 0 = dg (val l) := by
  rw [← h]; simp [val, dg_zero]
/-- The limb at a place. -/
theorem limb_val : ∀ {l : List Nat} (_ : okL l) (k : Nat), l[k]?.getD 0 = val l / LB ^ k % LB
  | [], _, k => by simp [val]
  | x :: r, h, 0 => by
    obtain ⟨hx, _⟩ := okL_cons.1 h
    simp [val, Nat.mod_eq_of_lt hx]
  | x :: r, h, k + 1 => by
    obtain ⟨hx, hr⟩ := okL_cons.1 h
    rw [List.getElem?_cons_succ, limb_val hr k, val, Nat.pow_succ, Nat.mul_comm (LB ^ k), ← Nat.div_div_eq_div_mul, Nat.add_mul_div_left _ _ LB_pos, Nat.div_eq_of_lt hx, Nat.zero_add]
theorem val_take_mod {l : List Nat} (h : okL l) (k : Nat) : val (l.take k) = val l % LB ^ k := by
  rcases Nat.le_total k l.length with hk | hk
  · rw [val_split l k hk, Nat.add_mul_mod_self_left]
    have := val_lt (okL_take h k)
    rw [List.length_take, Nat.min_eq_left hk] at this
    exact (Nat.mod_eq_of_lt this).symm
  · rw [List.take_of_length_le hk]
    exact (Nat.mod_eq_of_lt (Nat.lt_of_lt_of_le (val_lt h) (Nat.pow_le_pow_right LB_pos hk))).symm
theorem val_drop_div {l : List Nat} (h : okL l) (k : Nat) : val (l.drop k) = val l / LB ^ k := by
  rcases Nat.le_total k l.length with hk | hk
  · rw [val_split l k hk, Nat.add_mul_div_left _ _ (pow_pos' k)]
    have := val_lt (okL_take h k)
    rw [List.length_take, Nat.min_eq_left hk] at this
    rw [Nat.div_eq_of_lt this, Nat.zero_add]
  · rw [List.drop_eq_nil_of_le hk]
    exact (Nat.div_eq_of_lt (Nat.lt_of_lt_of_le (val_lt h) (Nat.pow_le_pow_right LB_pos hk))).symm

/-! Order. -/
theorem val_lt_take {a b : List Nat} {k x y : Nat} (ha : okL a) (_hb : okL b) (hxa : a[k]? = some x) (hyb : b[k]? = some y) (hl : a.length = b.length) (hd : a.drop (k + 1) = b.drop (k + 1)) (h : x < y) : val a < val b := by
  obtain ⟨ka, ea⟩ := List.getElem?_eq_some_iff.1 hxa
  obtain ⟨kb, eb⟩ := List.getElem?_eq_some_iff.1 hyb
  rw [val_split a k (by omega), val_split b k (by omega)]
  have h1 : a.drop k = x :: a.drop (k + 1) := by rw [List.drop_eq_getElem_cons ka, ea]
  have h2 : b.drop k = y :: b.drop (k + 1) := by rw [List.drop_eq_getElem_cons kb, eb]
  have h3 := val_lt (okL_take ha k)
  rw [List.length_take, Nat.min_eq_left (by omega)] at h3
  rw [h1, h2, hd, val, val]
  generalize val (b.drop (k + 1)) = t
  have h4 : LB ^ k * (x + LB * t) + LB ^ k ≤ LB ^ k * (y + LB * t) := by
    rw [← Nat.mul_succ]; exact Nat.mul_le_mul_left _ (by omega)
  omega
theorem val_eq_drop {a b : List Nat} (h : a.drop 0 = b.drop 0) : val a = val b := by simp at h; rw [h]
theorem drop_step {a b : List Nat} {k x : Nat} (hxa : a[k]? = some x) (hyb : b[k]? = some x) (hd : a.drop (k + 1) = b.drop (k + 1)) : a.drop k = b.drop k := by
  obtain ⟨ka, ea⟩ := List.getElem?_eq_some_iff.1 hxa
  obtain ⟨kb, eb⟩ := List.getElem?_eq_some_iff.1 hyb
  rw [List.drop_eq_getElem_cons ka, List.drop_eq_getElem_cons kb, ea, eb, hd]
end Go.Proofs.Ytmmgbofhbnflkaa
