import Derived.Test.YtlababdfdjjjaaaGreatDoorNB
namespace Go.Proofs.YtlababdfdjjjaaaGreatDoor

/-! Division of a row by a divisor, limb by limb of the quotient. -/
theorem out_zero {a b n r : Nat} (h : r + n * b = a) (hq : a / b ≤ n) (hb : 0 < b) : n = a / b ∧ r = a % b := by
  have h1 : n ≤ a / b := (Nat.le_div_iff_mul_le hb).2 (by omega)
  have h2 : n = a / b := by omega
  have h3 := Nat.div_add_mod a b
  rw [← h2, Nat.mul_comm] at h3
  exact ⟨h2, by omega⟩
theorem carry_same {r t M x y : Nat} (hr : r < M) (ht : t < M) (h : r + x * M = t + y * M) : r = t := by
  have h1 : (r + x * M) % M = (t + y * M) % M := by rw [h]
  rw [Nat.add_mul_mod_self_right, Nat.add_mul_mod_self_right, Nat.mod_eq_of_lt hr, Nat.mod_eq_of_lt ht] at h1
  exact h1
theorem out_more {a b n r r' M bw cy : Nat} (h : r + n * b = a + bw * M) (hr : r < M) (hr' : r' < M) (hbw : 0 < bw) (hn : n ≤ a / b + 1) (hb : 0 < b) (haM : a < M) (h' : r' + cy * M = r + 1 * b) : 1 ≤ n ∧ n - 1 = a / b ∧ r' = a % b := by
  have hM : M ≤ bw * M := Nat.le_mul_of_pos_left _ hbw
  have h1 : a < n * b := by omega
  have h2 : a / b < n := (Nat.div_lt_iff_lt_mul hb).2 h1
  have h3 : n = a / b + 1 := by omega
  have h4 := Nat.div_add_mod a b
  have h5 : a % b < M := Nat.lt_of_le_of_lt (Nat.mod_le _ _) haM
  refine ⟨by rw [h3]; exact Nat.le_add_left _ _, by rw [h3]; exact Nat.add_sub_cancel .., carry_same (x := cy) (y := bw) hr' h5 ?_⟩
  rw [h3, Nat.add_mul, Nat.one_mul, Nat.mul_comm (a / b)] at h
  omega

/-- Between two limbs of a quotient. -/
structure DivI (a D j : Nat) (R Q : List Nat) : Prop where
  eq : val R + LB ^ j * val (Q.drop j) * D = a
  lt : val (R.drop j) < D
theorem drop_val {R : List Nat} {i x : Nat} (hx : R[i]? = some x) : val (R.drop i) = x + LB * val (R.drop (i + 1)) := by
  obtain ⟨hi, he⟩ := List.getElem?_eq_some_iff.1 hx
  rw [List.drop_eq_getElem_cons hi, he]; rfl
theorem step_lt {v D B x : Nat} (h : v < D) (hx : x < B) : x + B * v < D * B := by
  have h3 : (v + 1) * B ≤ D * B := Nat.mul_le_mul_right B h
  rw [Nat.add_mul, Nat.one_mul, Nat.mul_comm] at h3
  omega
theorem div_part {R : List Nat} {i k D : Nat} (hR : okL R) (hlen : i + k + 1 ≤ R.length) (hlt : val (R.drop (i + 1)) < D) (hD : D ≤ LB ^ k) :
    val ((R.drop i).take (k + 1)) = val (R.drop i) ∧ val (R.drop i) < D * LB := by
  obtain ⟨x, hx⟩ : ∃ x, R[i]? = some x := ⟨R[i]'(by omega), List.getElem?_eq_getElem (by omega)⟩
  have h1 := drop_val hx
  have hxB : x < LB := hR x (List.mem_of_getElem? hx)
  have h2 : val (R.drop i) < D * LB := by
    rw [h1]; exact step_lt hlt hxB
  refine ⟨?_, h2⟩
  have h4 : D * LB ≤ LB ^ k * LB := Nat.mul_le_mul_right _ hD
  have p1 : LB ^ (k + 1) = LB ^ k * LB := Nat.pow_succ ..
  rw [val_take_mod (okL_drop hR i), Nat.mod_eq_of_lt]
  rw [p1]; exact Nat.lt_of_lt_of_le h2 h4
theorem DivI.next {a D i k : Nat} {R Q r : List Nat} (h : DivI a D (i + 1) R Q) (hR : okL R) (hlen : i + k + 1 ≤ R.length) (hi : i < Q.length) (hD : D ≤ LB ^ k) (hD0 : 0 < D)
    (hr : r.length = k + 1) (hv : val r = val ((R.drop i).take (k + 1)) % D) : DivI a D i (upd R i r) (Q.set i (val ((R.drop i).take (k + 1)) / D)) := by
  obtain ⟨h1, h2⟩ := div_part hR hlen h.lt hD
  have e0 := h.eq
  have hsp := val_split R i (by omega)
  have hz : val (R.drop (i + (k + 1))) = 0 := by
    have := val_drop_div (okL_drop hR i) (k + 1)
    rw [List.drop_drop] at this
    have h4 : D * LB ≤ LB ^ k * LB := Nat.mul_le_mul_right _ hD
    have p1 : LB ^ (k + 1) = LB ^ k * LB := Nat.pow_succ ..
    rw [this, Nat.div_eq_of_lt]
    rw [p1]; exact Nat.lt_of_lt_of_le h2 h4
  have hl : (R.take i).length = i := by rw [List.length_take]; omega
  have hu : val (upd R i r) = val (R.take i) + LB ^ i * val r := by
    unfold upd
    rw [val_append, val_append, hl, hr, hz]; simp
  have hud : (upd R i r).drop i = r ++ R.drop (i + (k + 1)) := by
    unfold upd
    rw [List.append_assoc, List.drop_append, List.drop_eq_nil_of_le (by omega), hl, Nat.sub_self, hr]; simp
  have hQ : val ((Q.set i (val ((R.drop i).take (k + 1)) / D)).drop i) = val ((R.drop i).take (k + 1)) / D + LB * val (Q.drop (i + 1)) := by
    rw [drop_val (x := val ((R.drop i).take (k + 1)) / D) (by rw [List.getElem?_set_self hi]), List.drop_set, if_pos (Nat.lt_succ_self i)]
  rw [h1] at hv hQ ⊢
  refine ⟨?_, ?_⟩
  · have p1 : LB ^ (i + 1) = LB ^ i * LB := Nat.pow_succ ..
    rw [hu, hQ, hv, ← e0, hsp, p1]
    have hdm := Nat.div_add_mod (val (R.drop i)) D
    generalize val (R.drop i) / D = q at *
    generalize val (R.drop i) % D = m at *
    rw [← hdm]
    generalize LB ^ i = z
    generalize val (R.take i) = t
    generalize val (Q.drop (i + 1)) = u
    clear hD hv hQ hdm hsp e0 hz h2 h1 hu
    generalize LB = B
    grind
  · rw [hud, val_append, hr, hz, hv]
    rw [Nat.mul_zero, Nat.add_zero]; exact Nat.mod_lt _ hD0
theorem DivI.result {a D : Nat} {R Q : List Nat} (h : DivI a D 0 R Q) (hD : 0 < D) : val Q = a / D ∧ val R = a % D := by
  have h1 := h.eq; have h2 := h.lt
  simp only [List.drop_zero, Nat.pow_zero, Nat.one_mul] at h1 h2
  have : a = val R + D * val Q := by rw [← h1, Nat.mul_comm D]
  rw [this, Nat.add_mul_div_left _ _ hD, Nat.add_mul_mod_self_left, Nat.div_eq_of_lt h2, Nat.mod_eq_of_lt h2]
  exact ⟨by omega, rfl⟩
/-- A divisor whose highest bit is 1. -/
theorem norm_div {b k x s : Nat} (hk : 1 ≤ k) (hx : x * LB ^ (k - 1) ≤ b ∧ b < (x + 1) * LB ^ (k - 1)) (h1 : 2147483648 ≤ x * 2 ^ s) (h2 : (x + 1) * 2 ^ s ≤ LB) :
    2147483648 * LB ^ (k - 1) ≤ b * 2 ^ s ∧ b * 2 ^ s < LB ^ k := by
  obtain ⟨j, rfl⟩ : ∃ j, k = j + 1 := ⟨k - 1, by omega⟩
  rw [Nat.add_sub_cancel] at *
  have e1 : x * LB ^ j * 2 ^ s = x * 2 ^ s * LB ^ j := by rw [Nat.mul_assoc, Nat.mul_comm (LB ^ j), ← Nat.mul_assoc]
  have e2 : (x + 1) * LB ^ j * 2 ^ s = (x + 1) * 2 ^ s * LB ^ j := by rw [Nat.mul_assoc, Nat.mul_comm (LB ^ j), ← Nat.mul_assoc]
  constructor
  · have h3 := Nat.mul_le_mul_right (2 ^ s) hx.1
    have h4 := Nat.mul_le_mul_right (LB ^ j) h1
    omega
  · have h3 := Nat.mul_lt_mul_of_pos_right hx.2 (Nat.two_pow_pos s)
    have h4 := Nat.mul_le_mul_right (LB ^ j) h2
    rw [Nat.pow_succ, Nat.mul_comm (LB ^ j)]
    omega
theorem dg_top {D k : Nat} (hk : 1 ≤ k) (h1 : 2147483648 * LB ^ (k - 1) ≤ D) (h2 : D < LB ^ k) : (dg D).length = k ∧ ∃ x, (dg D)[k - 1]? = some x ∧ 2147483648 ≤ x := by
  have hl : (dg D).length = k := by
    have a1 : (dg D).length ≤ k := dg_le.2 h2
    have a2 : k - 1 < (dg D).length := dg_gt.2 (by have := pow_pos' (k - 1); omega)
    omega
  refine ⟨hl, (dg D)[k - 1]'(by omega), List.getElem?_eq_getElem (by omega), ?_⟩
  have hv := limb_val (ok_dg D) (k - 1)
  rw [List.getElem?_eq_getElem (by omega), Option.getD_some, val_dg] at hv
  rw [hv]
  obtain ⟨j, rfl⟩ : ∃ j, k = j + 1 := ⟨k - 1, by omega⟩
  rw [Nat.add_sub_cancel] at *
  have h3 : D / LB ^ j < LB := by rw [Nat.div_lt_iff_lt_mul (pow_pos' j), Nat.mul_comm]; rw [Nat.pow_succ] at h2; exact h2
  rw [Nat.mod_eq_of_lt h3]
  exact (Nat.le_div_iff_mul_le (pow_pos' j)).2 h1
/-- The row to divide, of which no limb is done. -/
theorem DivI.start {a A' D la k n s : Nat} {R Q : List Nat} (ha : a < LB ^ la) (hA : A' = a * 2 ^ s) (hs : s < 32) (hk : 1 ≤ k) (hkl : k ≤ la) (hD : 2147483648 * LB ^ (k - 1) ≤ D) (hR : okL R) (hv : val R = A') (hQ : Q.length = n) (hn : n = la - k + 1) : DivI A' D n R Q := by
  refine ⟨by rw [List.drop_eq_nil_of_le (by omega), hv]; simp [val], ?_⟩
  rw [val_drop_div hR, hv, Nat.div_lt_iff_lt_mul (pow_pos' n), hA]
  have h1 : a * 2 ^ s < LB ^ la * 2 ^ s := Nat.mul_lt_mul_of_pos_right ha (Nat.two_pow_pos s)
  have h2 : LB ^ la * 2 ^ s ≤ LB ^ la * 2147483648 := Nat.mul_le_mul_left _ (by have := Nat.pow_le_pow_right (show 0 < 2 by omega) (show s ≤ 31 by omega); exact this)
  have h3 := Nat.mul_le_mul_right (LB ^ n) hD
  have h4 : 2147483648 * LB ^ (k - 1) * LB ^ n = LB ^ la * 2147483648 := by
    rw [Nat.mul_assoc, ← Nat.pow_add, Nat.mul_comm]; congr 2; omega
  omega
end Go.Proofs.YtlababdfdjjjaaaGreatDoor
