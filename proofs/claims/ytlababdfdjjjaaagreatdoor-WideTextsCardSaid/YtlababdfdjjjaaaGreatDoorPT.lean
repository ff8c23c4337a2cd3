import Derived.Test.YtlababdfdjjjaaaGreatDoorPA
import Derived.Lib.ItoaNum
import Derived.Lib.ItoaMem
import Derived.Lib.TrimByte
import Derived.Lib.Join
import Derived.Lib.Repeat
namespace Go.Proofs.YtlababdfdjjjaaaGreatDoor

/-! Decimal digits and numbers. -/
/-- What digits spell behind 'acc'. -/
def dv (acc : Nat) : List UInt8 → Nat
  | [] => acc
  | c :: r => dv (acc * 10 + (c.toNat - 48)) r
/-- A digit. -/
def isD (c : UInt8) : Prop := 48 ≤ c.toNat ∧ c.toNat ≤ 57
instance (c : UInt8) : Decidable (isD c) := by unfold isD; exact inferInstance
def allD (l : List UInt8) : Prop := ∀ c ∈ l, isD c
theorem allD_nil : allD [] := fun _ h => by cases h
theorem allD_append {a b : List UInt8} : allD (a ++ b) ↔ allD a ∧ allD b := by
  unfold allD; simp only [List.mem_append]
  exact ⟨fun h => ⟨fun c hc => h c (.inl hc), fun c hc => h c (.inr hc)⟩, fun h c hc => hc.elim (h.1 c) (h.2 c)⟩
theorem allD_cons {x : UInt8} {l : List UInt8} : allD (x :: l) ↔ isD x ∧ allD l := by
  unfold allD; simp
theorem dv_cons (acc : Nat) (c : UInt8) (r : List UInt8) : dv acc (c :: r) = dv (acc * 10 + (c.toNat - 48)) r := by conv => lhs; unfold dv
theorem dv_nil (acc : Nat) : dv acc [] = acc := by conv => lhs; unfold dv
theorem dv_append (a b : List UInt8) : ∀ acc : Nat, dv acc (a ++ b) = dv (dv acc a) b := by
  induction a with
  | nil => intro acc; rw [List.nil_append, dv_nil]
  | cons x a ih => intro acc; rw [List.cons_append, dv_cons, dv_cons, ih]
theorem dv_step (A B C D P : Nat) (h : C = A * 10 + D) : C * P + B = A * (P * 10) + (D * P + B) := by
  subst h
  rw [Nat.add_mul, Nat.mul_comm P 10, Nat.mul_assoc, Nat.add_assoc]
theorem dv_acc (b : List UInt8) : ∀ acc : Nat, dv acc b = acc * 10 ^ b.length + dv 0 b := by
  induction b with
  | nil => intro acc; rw [dv_nil, dv_nil]; simp
  | cons x b ih =>
    intro acc
    rw [dv_cons acc, dv_cons 0, ih (acc * 10 + _), ih (0 * 10 + _), List.length_cons, Nat.pow_succ]
    generalize 10 ^ b.length = P
    generalize dv 0 b = B
    rw [Nat.zero_mul, Nat.zero_add]
    exact dv_step acc B _ _ P rfl
theorem dv_lt (b : List UInt8) : allD b → dv 0 b < 10 ^ b.length := by
  induction b with
  | nil => intro _; rw [dv_nil]; simp
  | cons x b ih =>
    intro h
    obtain ⟨hx, hb⟩ := allD_cons.1 h
    have hi := ih hb
    rw [dv_cons, dv_acc b, List.length_cons, Nat.pow_succ]
    obtain ⟨h1, h2⟩ := hx
    generalize 10 ^ b.length = P at *
    generalize dv 0 b = B at *
    rw [Nat.zero_mul, Nat.zero_add]
    have h4 : (x.toNat - 48) * P ≤ 9 * P := Nat.mul_le_mul_right _ (by omega)
    omega
theorem digit_of (d : Nat) (h : d < 10) : isD (UInt8.ofNat (48 + d)) ∧ (UInt8.ofNat (48 + d)).toNat = 48 + d := by
  have e : (UInt8.ofNat (48 + d)).toNat = 48 + d := by rw [UInt8.toNat_ofNat']; omega
  exact ⟨⟨by omega, by omega⟩, e⟩
theorem dec_small {n : Nat} (h : n < 10) : Lib.decDigits n = [UInt8.ofNat (48 + n)] := by rw [Lib.decDigits, dif_pos h]
theorem dec_big {n : Nat} (h : ¬ n < 10) : Lib.decDigits n = Lib.decDigits (n / 10) ++ [UInt8.ofNat (48 + n % 10)] := by rw [Lib.decDigits, dif_neg h]
theorem dec_all (n : Nat) : allD (Lib.decDigits n) ∧ dv 0 (Lib.decDigits n) = n := by
  induction n using Nat.strongRecOn with
  | _ n ih =>
    by_cases h : n < 10
    · rw [dec_small h]
      obtain ⟨h1, h2⟩ := digit_of n h
      exact ⟨fun c hc => by rw [List.mem_singleton] at hc; rw [hc]; exact h1, by rw [dv_cons, dv_nil, h2]; omega⟩
    · rw [dec_big h]
      obtain ⟨i1, i2⟩ := ih (n / 10) (by omega)
      obtain ⟨h1, h2⟩ := digit_of (n % 10) (by omega)
      refine ⟨allD_append.2 ⟨i1, fun c hc => by rw [List.mem_singleton] at hc; rw [hc]; exact h1⟩, ?_⟩
      rw [dv_append, i2, dv_cons, dv_nil, h2]; omega
theorem dec_ne (n : Nat) : Lib.decDigits n ≠ [] := by
  by_cases h : n < 10
  · rw [dec_small h]; simp
  · rw [dec_big h]; simp
/-- Digits without the zeros in front. -/
theorem trim_dec (l : List UInt8) (h : allD l) : Lib.trimLeftB l 48 = if dv 0 l = 0 then [] else Lib.decDigits (dv 0 l) := by
  suffices H : ∀ r : List UInt8, allD r.reverse → Lib.trimLeftB r.reverse 48 = if dv 0 r.reverse = 0 then [] else Lib.decDigits (dv 0 r.reverse) by
    have := H l.reverse (by rwa [List.reverse_reverse])
    rwa [List.reverse_reverse] at this
  intro r
  induction r with
  | nil => intro _; rfl
  | cons c r ih =>
    intro hd
    rw [List.reverse_cons] at hd ⊢
    obtain ⟨h1, h2⟩ := allD_append.1 hd
    have hc := h2 c (by simp)
    have ih := ih h1
    obtain ⟨p, q⟩ := hc
    have hof : UInt8.ofNat (48 + (c.toNat - 48)) = c := by
      rw [show 48 + (c.toNat - 48) = c.toNat by omega]; exact UInt8.ofNat_toNat
    rw [dv_append, dv_cons]
    rw [dv_nil]
    unfold Lib.trimLeftB at ih ⊢
    rw [List.dropWhile_append]
    generalize dv 0 r.reverse = V at *
    by_cases hz : V = 0
    · subst hz
      rw [if_pos rfl] at ih
      rw [ih]
      by_cases hc0 : c.toNat = 48
      · have e : (c == 48) = true := by rw [beq_iff_eq]; exact UInt8.toNat_inj.1 hc0
        simp [e, hc0]
      · have e : (c == 48) = false := by rw [beq_eq_false_iff_ne]; intro e; exact hc0 (by rw [e]; rfl)
        have e2 : ¬ (0 * 10 + (c.toNat - 48) = 0) := by omega
        have e3 : Lib.decDigits (0 * 10 + (c.toNat - 48)) = [c] := by
          rw [Nat.zero_mul, Nat.zero_add, dec_small (by omega), hof]
        rw [if_neg e2, e3]
        simp [e]
    · rw [if_neg hz] at ih
      have e1 : (V * 10 + (c.toNat - 48)) / 10 = V := by omega
      have e2 : (V * 10 + (c.toNat - 48)) % 10 = c.toNat - 48 := by omega
      have e3 : ¬ (V * 10 + (c.toNat - 48) = 0) := by omega
      have e4 : Lib.decDigits (V * 10 + (c.toNat - 48)) = Lib.decDigits V ++ [c] := by
        rw [dec_big (by omega), e1, e2, hof]
      have e5 : (Lib.decDigits V).isEmpty = false := by
        cases hd : Lib.decDigits V with
        | nil => exact absurd hd (dec_ne V)
        | cons _ _ => rfl
      rw [if_neg e3, e4, ih, e5]
      rfl
/-- All nine digits of a group. -/
def g9 (n : Nat) : List UInt8 := Lib.repeatL [48] (9 - (Lib.decDigits n).length) ++ Lib.decDigits n
theorem repeat_zero : ∀ k, allD (Lib.repeatL [48] k) ∧ dv 0 (Lib.repeatL [48] k) = 0 ∧ (Lib.repeatL [48] k).length = k
  | 0 => ⟨allD_nil, dv_nil 0, rfl⟩
  | k + 1 => by
    obtain ⟨h1, h2, h3⟩ := repeat_zero k
    have e : Lib.repeatL [48] (k + 1) = [48] ++ Lib.repeatL [48] k := rfl
    rw [e]
    exact ⟨allD_append.2 ⟨fun c hc => by rw [List.mem_singleton] at hc; rw [hc]; decide, h1⟩, by rw [dv_append, dv_cons, dv_nil]; exact h2, by simp [h3]⟩
theorem dec_len {n k : Nat} (hk : 1 ≤ k) (h : n < 10 ^ k) : (Lib.decDigits n).length ≤ k := by
  induction k generalizing n with
  | zero => omega
  | succ k ih =>
    by_cases h1 : n < 10
    · rw [dec_small h1]; simp
    · rw [dec_big h1]
      rw [Nat.pow_succ] at h
      rcases Nat.eq_zero_or_pos k with h0 | h0
      · subst h0; omega
      · have := ih (n := n / 10) h0 (by omega)
        simp; omega
theorem g9_all {n : Nat} (h : n < 1000000000) : allD (g9 n) ∧ dv 0 (g9 n) = n ∧ (g9 n).length = 9 := by
  obtain ⟨h1, h2, h3⟩ := repeat_zero (9 - (Lib.decDigits n).length)
  obtain ⟨d1, d2⟩ := dec_all n
  have hl := dec_len (n := n) (k := 9) (by omega) (by simpa using h)
  unfold g9
  exact ⟨allD_append.2 ⟨h1, d1⟩, by rw [dv_append, h2, d2], by rw [List.length_append, h3]; omega⟩
/-- The groups of a number, the lowest first, as far as they have been found. -/
def Gs (n rest : Nat) (gs : List (List UInt8)) : Prop := allD gs.reverse.flatten ∧ gs.reverse.flatten.length = 9 * gs.length ∧ rest * 10 ^ (9 * gs.length) + dv 0 gs.reverse.flatten = n
theorem Gs.start (n : Nat) : Gs n n [] := ⟨allD_nil, rfl, by rw [show ([] : List (List UInt8)).reverse.flatten = [] from rfl, dv_nil]; simp⟩
theorem Gs.step {n rest : Nat} {gs : List (List UInt8)} (h : Gs n rest gs) : Gs n (rest / 1000000000) (gs ++ [g9 (rest % 1000000000)]) := by
  obtain ⟨h1, h2, h3⟩ := h
  obtain ⟨g1, g2, g3⟩ := g9_all (n := rest % 1000000000) (by omega)
  have e : (gs ++ [g9 (rest % 1000000000)]).reverse.flatten = g9 (rest % 1000000000) ++ gs.reverse.flatten := by simp
  refine ⟨by rw [e]; exact allD_append.2 ⟨g1, h1⟩, by rw [e, List.length_append, h2, g3]; simp; omega, ?_⟩
  rw [e, dv_append, g2, dv_acc, h2, List.length_append, List.length_singleton, Nat.mul_add, Nat.pow_add, ← h3, ← Nat.add_assoc]
  congr 1
  rw [show (10 : Nat) ^ (9 * 1) = 1000000000 by rfl, Nat.mul_comm (10 ^ (9 * gs.length)) 1000000000, ← Nat.mul_assoc, ← Nat.add_mul]
  congr 1
  omega
theorem join_rev (gs : List (List UInt8)) : Lib.join gs.reverse [] = gs.reverse.flatten := by
  have : ∀ l : List (List UInt8), Lib.join l [] = l.flatten := by
    intro l
    cases l with
    | nil => rfl
    | cons x r => rw [Lib.join_cons]; simp [Lib.joinTail]
  exact this _
theorem Gs.text {n : Nat} {gs : List (List UInt8)} (h : Gs n 0 gs) (hn : n ≠ 0) : Lib.trimLeftB (Lib.join gs.reverse []) 48 = Lib.decDigits n := by
  obtain ⟨h1, h2, h3⟩ := h
  rw [join_rev, trim_dec _ h1]
  rw [Nat.zero_mul, Nat.zero_add] at h3
  rw [h3, if_neg hn]
end Go.Proofs.YtlababdfdjjjaaaGreatDoor
