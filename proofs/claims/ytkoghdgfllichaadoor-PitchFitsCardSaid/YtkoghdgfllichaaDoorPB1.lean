import Derived.Test.YtkoghdgfllichaaDoorRGA
namespace Go.Proofs.YtkoghdgfllichaaDoor

/-! Products of powers by the sum of the exponents of each number. -/
def ex (p : Nat) : List (Nat × Int) → Int
  | [] => 0
  | x :: r => (if x.1 = p then x.2 else 0) + ex p r
theorem ex_append (p : Nat) : ∀ a b, ex p (a ++ b) = ex p a + ex p b
  | [], b => by simp [ex]
  | x :: r, b => by rw [List.cons_append, ex, ex, ex_append p r b]; omega
theorem ex_scL (p : Nat) (s : Int) : ∀ l, ex p (scL s l) = ex p l * s
  | [] => by simp [scL, ex]
  | x :: r => by
    show (if x.1 = p then x.2 * s else 0) + ex p (scL s r) = ((if x.1 = p then x.2 else 0) + ex p r) * s
    rw [ex_scL p s r, Int.add_mul]
    split <;> simp
theorem ex_nz (p : Nat) : ∀ l, ex p (nz l) = ex p l
  | [] => rfl
  | x :: r => by
    by_cases h : x.2 = 0
    · have e : nz (x :: r) = nz r := by unfold nz; rw [List.filter_cons, if_neg (by simp [h])]
      rw [e, ex_nz p r, ex, h]; simp
    · have e : nz (x :: r) = x :: nz r := by unfold nz; rw [List.filter_cons, if_pos (by simp [h])]
      rw [e, ex, ex, ex_nz p r]
def drp (p : Nat) (l : List (Nat × Int)) : List (Nat × Int) := l.filter fun x => x.1 != p
def pu (p : Nat) : List (Nat × Int) → Nat
  | [] => 0
  | x :: r => (if x.1 = p then x.2.toNat else 0) + pu p r
def pd (p : Nat) : List (Nat × Int) → Nat
  | [] => 0
  | x :: r => (if x.1 = p then (-x.2).toNat else 0) + pd p r
theorem ex_pu (p : Nat) : ∀ l, ex p l = (pu p l : Int) - (pd p l : Int)
  | [] => rfl
  | x :: r => by
    rw [ex, pu, pd, ex_pu p r]
    split <;> omega
theorem drp_P (p : Nat) : ∀ l, upP l = p ^ pu p l * upP (drp p l) ∧ dnP l = p ^ pd p l * dnP (drp p l)
  | [] => by simp [pu, pd, drp, upP, dnP]
  | x :: r => by
    obtain ⟨h1, h2⟩ := drp_P p r
    by_cases h : x.1 = p
    · have e : drp p (x :: r) = drp p r := by unfold drp; rw [List.filter_cons, if_neg (by simp [h])]
      rw [e, pu, pd, if_pos h, if_pos h]
      constructor
      · show x.1 ^ x.2.toNat * upP r = _; rw [h1, h, Nat.pow_add, Nat.mul_assoc]
      · show x.1 ^ (-x.2).toNat * dnP r = _; rw [h2, h, Nat.pow_add, Nat.mul_assoc]
    · have e : drp p (x :: r) = x :: drp p r := by unfold drp; rw [List.filter_cons, if_pos (by simp [h])]
      rw [e, pu, pd, if_neg h, if_neg h, Nat.zero_add, Nat.zero_add]
      constructor
      · show x.1 ^ x.2.toNat * upP r = _ * (x.1 ^ x.2.toNat * upP (drp p r)); rw [h1, Nat.mul_left_comm]
      · show x.1 ^ (-x.2).toNat * dnP r = _ * (x.1 ^ (-x.2).toNat * dnP (drp p r)); rw [h2, Nat.mul_left_comm]
theorem drp_len (p : Nat) (l : List (Nat × Int)) : (drp p l).length ≤ l.length := List.length_filter_le _ _
theorem ex_drp (p q : Nat) : ∀ l, ex q (drp p l) = if q = p then 0 else ex q l
  | [] => by simp [drp, ex]
  | x :: r => by
    by_cases h : x.1 = p
    · have e : drp p (x :: r) = drp p r := by unfold drp; rw [List.filter_cons, if_neg (by simp [h])]
      rw [e, ex_drp p q r, ex]
      split
      · rfl
      · rw [if_neg (by omega)]; omega
    · have e : drp p (x :: r) = x :: drp p r := by unfold drp; rw [List.filter_cons, if_pos (by simp [h])]
      rw [e, ex, ex, ex_drp p q r]
      by_cases hq : q = p
      · rw [if_pos hq, if_pos hq, if_neg (by omega)]; rfl
      · rw [if_neg hq, if_neg hq]
theorem ex_one : ∀ (n : Nat) (l : List (Nat × Int)), l.length ≤ n → (∀ p, ex p l = 0) → upP l = dnP l
  | _, [], _, _ => rfl
  | 0, x :: r, h, _ => by simp at h
  | n + 1, x :: r, h, h0 => by
    obtain ⟨e1, e2⟩ := drp_P x.1 (x :: r)
    have e3 := ex_pu x.1 (x :: r)
    rw [h0] at e3
    have hl : (drp x.1 (x :: r)).length ≤ n := by
      have e : drp x.1 (x :: r) = drp x.1 r := by unfold drp; rw [List.filter_cons, if_neg (by simp)]
      rw [e]
      have := drp_len x.1 r
      simp at h
      omega
    have h4 : ∀ p, ex p (drp x.1 (x :: r)) = 0 := fun p => by
      rw [ex_drp]
      split
      · rfl
      · exact h0 p
    rw [e1, e2, ex_one n _ hl h4, show pu x.1 (x :: r) = pd x.1 (x :: r) by omega]
def invL (l : List (Nat × Int)) : List (Nat × Int) := l.map fun x => (x.1, -x.2)
theorem invL_P : ∀ l, upP (invL l) = dnP l ∧ dnP (invL l) = upP l
  | [] => ⟨rfl, rfl⟩
  | x :: r => by
    obtain ⟨h1, h2⟩ := invL_P r
    constructor
    · show x.1 ^ (-x.2).toNat * upP (invL r) = _; rw [h1]; rfl
    · show x.1 ^ (- -x.2).toNat * dnP (invL r) = _; rw [h2, Int.neg_neg]; rfl
theorem ex_inv (p : Nat) : ∀ l, ex p (invL l) = -ex p l
  | [] => rfl
  | x :: r => by
    show (if x.1 = p then -x.2 else 0) + ex p (invL r) = -((if x.1 = p then x.2 else 0) + ex p r)
    rw [ex_inv p r]
    split <;> omega
theorem eqv_ex {l l' : List (Nat × Int)} (h : ∀ p, ex p l = ex p l') : eqvP l l' := by
  have h2 := ex_one _ (l ++ invL l') (Nat.le_refl _) (fun p => by rw [ex_append, ex_inv, h p]; omega)
  rw [upP_append, dnP_append, (invL_P l').1, (invL_P l').2] at h2
  exact h2
theorem sgn_ex {l l' : List (Nat × Int)} (hp : posN l) (hp' : posN l') (h : ∀ p, ex p l = ex p l') : sgnP l = sgnP l' := (eqv_ex h).sgn hp hp'
/-- The exponents of a ratio. -/
theorem ex_zl (p : Nat) (v : V6) : ex p v.zl = (if 2 = p then v.a else 0) + ((if 3 = p then v.b else 0) + ((if 5 = p then v.c else 0) + ((if 7 = p then v.d else 0) + ((if 11 = p then v.e else 0) + ((if 13 = p then v.f else 0) + 0))))) := rfl
theorem ex_two (p : Nat) (v : V6) (x : Int) : ex p (v.two x).zl = ex p v.zl + (if 2 = p then x else 0) := by
  rw [ex_zl, ex_zl]
  show (if 2 = p then v.a + x else 0) + _ = _
  split <;> (simp only [V6.two]; omega)
theorem ex_add (p : Nat) (u v : V6) : ex p (u.add v).zl = ex p u.zl + ex p v.zl := by
  rw [ex_zl, ex_zl, ex_zl]
  simp only [V6.add]
  have q : ∀ (P : Prop) [Decidable P] (x y : Int), (if P then x + y else 0) = (if P then x else 0) + (if P then y else 0) := fun P _ x y => by split <;> simp
  rw [q, q, q, q, q, q]
  omega
theorem ex_scl (p : Nat) (k : Int) (v : V6) : ex p (V6.scl k v).zl = k * ex p v.zl := by
  rw [ex_zl, ex_zl]
  simp only [V6.scl]
  have q : ∀ (P : Prop) [Decidable P] (x : Int), (if P then k * x else 0) = k * (if P then x else 0) := fun P _ x => by split <;> simp
  rw [q, q, q, q, q, q]
  simp only [Int.mul_add, Int.mul_zero]
theorem ex_single (p n : Nat) (a : Int) : ex p [(n, a)] = if n = p then a else 0 := by simp [ex]
/-- A product of two numbers, to a power. -/
theorem split_two (m n : Nat) (a : Int) (l : List (Nat × Int)) : eqvP (l ++ [(m * n, a)]) (l ++ [(m, a), (n, a)]) := by
  unfold eqvP
  rw [upP_append, dnP_append, upP_append, dnP_append]
  simp only [upP, dnP, Nat.mul_pow, Nat.mul_one]
  generalize upP l = u
  generalize dnP l = d
  generalize m ^ a.toNat = x
  generalize n ^ a.toNat = y
  generalize m ^ (-a).toNat = z
  generalize n ^ (-a).toNat = t
  grind
theorem sgn_split {m n : Nat} {a : Int} {l : List (Nat × Int)} (hl : posN l) (hm : 1 ≤ m) (hn : 1 ≤ n) : sgnP (l ++ [(m * n, a)]) = sgnP (l ++ [(m, a), (n, a)]) :=
  (split_two m n a l).sgn (posN_append.2 ⟨hl, fun x hx => by rw [List.mem_singleton] at hx; subst hx; exact Nat.mul_pos hm hn⟩) (posN_append.2 ⟨hl, fun x hx => by
    simp only [List.mem_cons, List.not_mem_nil, or_false] at hx
    rcases hx with rfl | rfl <;> assumption⟩)
theorem posN_cons {x : Nat × Int} {l : List (Nat × Int)} : posN (x :: l) ↔ 1 ≤ x.1 ∧ posN l := by unfold posN; simp
theorem posN_nil : posN [] := fun _ h => by cases h
theorem posN_nz {l : List (Nat × Int)} (h : posN l) : posN (nz l) := fun x hx => h x (List.mem_filter.1 hx).1
theorem posN_scL {l : List (Nat × Int)} (s : Int) (h : posN l) : posN (scL s l) := fun x hx => by
  obtain ⟨y, hy, rfl⟩ := List.mem_map.1 hx
  exact h y hy
/-- Products of what is at most 1. -/
theorem sgn_le_mul {l u v : List (Nat × Int)} (hl : posN l) (hu : posN u) (hv : posN v) (h : ∀ p, ex p l = ex p u + ex p v) (h1 : sgnP u ≤ 0) (h2 : sgnP v ≤ 0) : sgnP l ≤ 0 := by
  have e := sgn_ex (l := invL l) (l' := invL u ++ invL v) (fun x hx => by obtain ⟨y, hy, rfl⟩ := List.mem_map.1 hx; exact hl y hy) (posN_append.2 ⟨fun x hx => by obtain ⟨y, hy, rfl⟩ := List.mem_map.1 hx; exact hu y hy, fun x hx => by obtain ⟨y, hy, rfl⟩ := List.mem_map.1 hx; exact hv y hy⟩) (fun p => by rw [ex_append, ex_inv, ex_inv, ex_inv, h p]; omega)
  have neg : ∀ l, sgnP (invL l) = -sgnP l := fun l => by
    unfold sgnP
    rw [(invL_P l).1, (invL_P l).2]
    by_cases h1 : upP l = dnP l
    · rw [if_pos h1.symm, if_pos h1]; rfl
    · rw [if_neg (fun h => h1 h.symm), if_neg h1]
      by_cases h2 : dnP l < upP l
      · rw [if_neg (by omega), if_pos h2]
      · rw [if_pos (by omega), if_neg h2]; rfl
  have h3 := sgn_mul_ge (l := invL u ++ invL v) (u := invL u) (v := invL v) (posN_append.2 ⟨fun x hx => by obtain ⟨y, hy, rfl⟩ := List.mem_map.1 hx; exact hu y hy, fun x hx => by obtain ⟨y, hy, rfl⟩ := List.mem_map.1 hx; exact hv y hy⟩) (fun x hx => by obtain ⟨y, hy, rfl⟩ := List.mem_map.1 hx; exact hu y hy) (fun x hx => by obtain ⟨y, hy, rfl⟩ := List.mem_map.1 hx; exact hv y hy) (eqvP.refl _) (by rw [neg]; omega) (by rw [neg]; omega)
  rw [← e, neg] at h3
  omega
theorem sgn_lt_mul {l u v : List (Nat × Int)} (hl : posN l) (hu : posN u) (hv : posN v) (h : ∀ p, ex p l = ex p u + ex p v) (h1 : sgnP u < 0) (h2 : sgnP v ≤ 0) : sgnP l < 0 :=
  sgn_mul_lt hl hu hv (eqv_ex fun p => by rw [ex_append, h p]) h1 h2
end Go.Proofs.YtkoghdgfllichaaDoor
