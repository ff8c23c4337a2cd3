import Derived.Test.YtlababdfdjjjaaaGreatDoorPT
import Derived.Lib.ParseIntB
namespace Go.Proofs.YtlababdfdjjjaaaGreatDoor

/-- What ParseUint says of at most nine bytes. -/
theorem pu_nine (l : List UInt8) : ∀ (acc : Nat), allD l → dv acc l ≤ 4294967295 → Lib.parseUintM (2 ^ 32 - 1) acc l = .ok (dv acc l) := by
  induction l with
  | nil => intro acc _ _; rw [dv_nil]; unfold Lib.parseUintM; rfl
  | cons c r ih =>
    intro acc hd hv
    obtain ⟨⟨h1, h2⟩, hr⟩ := allD_cons.1 hd
    rw [dv_cons] at hv ⊢
    unfold Lib.parseUintM
    have hge : acc * 10 + (c.toNat - 48) ≤ dv (acc * 10 + (c.toNat - 48)) r := by
      rw [dv_acc]
      exact Nat.le_trans (Nat.le_mul_of_pos_right _ (Nat.pow_pos (by omega))) (Nat.le_add_right _ _)
    rw [if_pos ⟨h1, h2⟩, if_neg (by omega), if_neg (by omega)]
    exact ih _ hr hv
theorem pu_bad (l : List UInt8) : ∀ (acc : Nat), ¬ allD l → acc * 10 ^ l.length + 10 ^ l.length ≤ 4294967296 → Lib.parseUintM (2 ^ 32 - 1) acc l = Lib.NumEnd.syntax := by
  induction l with
  | nil => intro acc h; exact absurd allD_nil h
  | cons c r ih =>
    intro acc hd hv
    unfold Lib.parseUintM
    by_cases hc : isD c
    · obtain ⟨h1, h2⟩ := hc
      have hr : ¬ allD r := fun h => hd (allD_cons.2 ⟨⟨h1, h2⟩, h⟩)
      rw [List.length_cons, Nat.pow_succ] at hv
      have hp : 1 ≤ 10 ^ r.length := Nat.pow_pos (by omega)
      have h5 : (acc * 10 + 10) * 10 ^ r.length ≤ 4294967296 := by
        rw [Nat.add_mul]
        rw [Nat.mul_comm (10 ^ r.length) 10, ← Nat.mul_assoc] at hv
        exact hv
      have h6 : (acc * 10 + (c.toNat - 48) + 1) * 10 ^ r.length ≤ 4294967296 := Nat.le_trans (Nat.mul_le_mul_right _ (by omega)) h5
      have h7 : acc * 10 + (c.toNat - 48) + 1 ≤ 4294967296 := Nat.le_trans (Nat.le_mul_of_pos_right _ hp) h6
      rw [if_pos ⟨h1, h2⟩, if_neg (by omega), if_neg (by omega)]
      refine ih _ hr ?_
      rw [Nat.add_mul _ 1, Nat.one_mul] at h6
      exact h6
    · unfold isD at hc
      rw [if_neg hc]
end Go.Proofs.YtlababdfdjjjaaaGreatDoor
namespace Go.Proofs.YtlababdfdjjjaaaGreatDoor

/-! Parse, on numbers. -/
instance (l : List UInt8) : Decidable (allD l) := by unfold allD; exact inferInstance
def parseW (l : List UInt8) : Nat × Int :=
  if 4900 < l.length then (0, 3) else if l = [] ∨ (1 < l.length ∧ l.head? = some 48) then (0, 6) else if allD l then (dv 0 l, 0) else (0, 6)
theorem dv_small {l : List UInt8} (h : allD l) : (dg (dv 0 l)).length ≤ l.length :=
  dg_le.2 (Nat.lt_of_lt_of_le (dv_lt l h) (Nat.pow_le_pow_left (by rw [LB_eq]; omega) _))
theorem dv_group {pre g : List UInt8} (h : pre = [] ∨ g.length = 9) : dv 0 (pre ++ g) = dv 0 pre * 1000000000 + dv 0 g := by
  rw [dv_append, dv_acc]
  rcases h with h | h
  · subst h
    rw [dv_nil, Nat.zero_mul, Nat.zero_mul]
  · rw [h]
theorem ten_le {k : Nat} (h : k ≤ 9) : 10 ^ k ≤ 1000000000 := Nat.pow_le_pow_right (n := 10) (by omega) h
theorem pu_yes {l : List UInt8} (h : allD l) (hl : l.length ≤ 9) (hne : l ≠ []) : Lib.parseUintB 32 l = .ok (dv 0 l) := by
  unfold Lib.parseUintB
  rw [if_neg hne]
  have h1 := dv_lt l h
  have h2 := ten_le hl
  exact pu_nine l 0 h (by omega)
theorem pu_no {l : List UInt8} (h : ¬ allD l) (hl : l.length ≤ 9) (hne : l ≠ []) : Lib.parseUintB 32 l = Lib.NumEnd.syntax := by
  unfold Lib.parseUintB
  rw [if_neg hne]
  have h2 := ten_le hl
  exact pu_bad l 0 h (by omega)
theorem dv_nine {l : List UInt8} (h : allD l) (hl : l.length ≤ 9) : dv 0 l < 1000000000 := Nat.lt_of_lt_of_le (dv_lt l h) (ten_le hl)
theorem allD_left {a b : List UInt8} (h : ¬ allD a) : ¬ allD (a ++ b) := fun h2 => h (allD_append.1 h2).1
theorem allD_mid {a b c : List UInt8} (h : ¬ allD b) : ¬ allD (a ++ (b ++ c)) := fun h2 => h (allD_append.1 (allD_append.1 h2).2).1
theorem dv_one {pre : List UInt8} {c : UInt8} : dv 0 (pre ++ [c]) = dv 0 pre * 10 + (c.toNat - 48) := by
  rw [dv_append, dv_cons, dv_nil]
/-! The reference's Text. -/
def dtext (m : Nat) : List UInt8 := if m = 0 then [] else Lib.decDigits m
theorem dtext_zero : dtext 0 = [] := by unfold dtext; rw [if_pos rfl]
theorem dtext_step {m : Nat} (h : m ≠ 0) : dtext m = dtext (m / 10) ++ [UInt8.ofNat (48 + m % 10)] := by
  unfold dtext
  rw [if_neg h]
  by_cases h1 : m < 10
  · rw [dec_small h1, if_pos (by omega)]
    rw [show m % 10 = m by omega]
    rfl
  · rw [dec_big h1, if_neg (by omega)]
theorem dtext_len (m : Nat) : ∀ k, m < 10 ^ k → (dtext m).length ≤ k := by
  induction m using Nat.strongRecOn with
  | _ m ih =>
    intro k hk
    by_cases h : m = 0
    · subst h; rw [dtext_zero]; simp
    · rw [dtext_step h, List.length_append, List.length_singleton]
      rcases Nat.eq_zero_or_pos k with h0 | h0
      · subst h0; simp at hk; omega
      · obtain ⟨j, rfl⟩ : ∃ j, k = j + 1 := ⟨k - 1, by omega⟩
        rw [Nat.pow_succ] at hk
        have := ih (m / 10) (by omega) j (by omega)
        omega
/-- One limb of the division in place. -/
theorem ten_limb {V U r x q t : Nat} (h : V * 10 + r = U) (hq : q = (r * LB + x) / 10) (ht : t = (r * LB + x) % 10) : (q + LB * V) * 10 + t = x + LB * U := by
  have e := Nat.div_add_mod (r * LB + x) 10
  rw [← hq, ← ht] at e
  rw [← h, Nat.mul_add, Nat.add_mul]
  rw [Nat.mul_comm r LB] at e
  rw [Nat.mul_assoc]
  omega
theorem ten_q {r x : Nat} (hr : r < 10) (hx : x < LB) : (r * LB + x) / 10 < LB := by rw [LB_eq] at *; omega
theorem val_drop {l : List Nat} {i x : Nat} (h : l[i]? = some x) : val (l.drop i) = x + LB * val (l.drop (i + 1)) := by
  obtain ⟨hi, rfl⟩ := List.getElem?_eq_some_iff.1 h
  rw [List.drop_eq_getElem_cons hi]
  rfl
theorem ten_round {L Q : List Nat} {j r x qd tt : Nat} (hx : L[j]? = some x) (hxq : Q[j]? = some x) (h : val (L.drop (j + 1)) * 10 + r = val (Q.drop (j + 1))) (hqd : qd = (r * LB + x) / 10) (htt : tt = (r * LB + x) % 10) :
    val ((L.set j qd).drop j) * 10 + tt = val (Q.drop j) := by
  have hj : j < L.length := (List.getElem?_eq_some_iff.1 hx).1
  have e1 := val_drop (l := L.set j qd) (i := j) (x := qd) (by rw [List.getElem?_set_self hj])
  have e2 : (L.set j qd).drop (j + 1) = L.drop (j + 1) := by rw [List.drop_set, if_pos (by omega)]
  rw [e2] at e1
  rw [e1, val_drop hxq]
  exact ten_limb h hqd htt
theorem take_round {L Q : List Nat} {j d : Nat} (h : L.take (j + 1) = Q.take (j + 1)) : (L.set j d).take j = Q.take j := by
  have e : (L.set j d).take j = L.take j := by
    rw [List.take_set, List.set_eq_of_length_le (by rw [List.length_take]; omega)]
  have h1 : (L.take (j + 1)).take j = (Q.take (j + 1)).take j := by rw [h]
  rw [List.take_take, List.take_take, Nat.min_eq_left (by omega)] at h1
  rw [e, h1]
end Go.Proofs.YtlababdfdjjjaaaGreatDoor
