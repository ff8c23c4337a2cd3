import Derived.Test.YtdncfignegagjaaDoorM1
namespace Go.Proofs.YtdncfignegagjaaDoor
open Go.RowKit

theorem parse_ev {l : List UInt8} (h : wholeB l = true) : Lib.parseIntB 64 l = if -9223372036854775808 ≤ ev l ∧ ev l ≤ 9223372036854775807 then .ok (ev l) else .range := by
  rcases whole_cases h with rfl | ⟨c, r, rfl, h1, h2⟩ | ⟨c, r, rfl, h1, h2⟩
  · decide +kernel
  · rw [ev_neg]
    have hp : Lib.parseUintB 64 (c :: r) = if val 0 (c :: r) ≤ 18446744073709551615 then .ok (val 0 (c :: r)) else .range := by
      unfold Lib.parseUintB
      rw [if_neg (by simp)]
      exact puM (c :: r) 0 h2 (by omega)
    unfold Lib.parseIntB
    simp only [show (45 : UInt8).toNat = 45 from rfl, or_true, if_true, hp]
    generalize val 0 (c :: r) = v
    by_cases hv : v ≤ 18446744073709551615
    · rw [if_pos hv]
      simp only [not_true, false_and, if_false, true_and]
      by_cases hw : v ≤ 9223372036854775808
      · rw [if_neg (by omega), if_pos (by omega)]
      · rw [if_pos (by omega), if_neg (by omega)]
    · rw [if_neg hv, if_neg (by omega)]
  · have hc : c ≠ 45 := by intro e; subst e; have := (inR_cons.1 h2).1.1; simp at this
    have hc1 : c.toNat ≠ 45 := by have := (inR_cons.1 h2).1.1; omega
    have hc2 : c.toNat ≠ 43 := by have := (inR_cons.1 h2).1.1; omega
    rw [ev_pos hc]
    have hp : Lib.parseUintB 64 (c :: r) = if val 0 (c :: r) ≤ 18446744073709551615 then .ok (val 0 (c :: r)) else .range := by
      unfold Lib.parseUintB
      rw [if_neg (by simp)]
      exact puM (c :: r) 0 h2 (by omega)
    unfold Lib.parseIntB
    simp only [hc1, hc2, or_self, if_false, hp]
    generalize val 0 (c :: r) = v
    by_cases hv : v ≤ 18446744073709551615
    · rw [if_pos hv]
      simp only [not_false_eq_true, true_and, false_and, if_false]
      by_cases hw : v ≤ 9223372036854775807
      · rw [if_neg (by omega), if_pos (by omega)]
      · rw [if_pos (by omega), if_neg (by omega)]
    · rw [if_neg hv, if_neg (by omega)]

/-- Reading a number back: just its digits are read as it. -/
theorem intW_iff {l : List UInt8} {a b v : Int} (hab : a ≤ b) (ha : -9223372036854775808 ≤ a) (hb : b ≤ 9223372036854775807) :
    intW l a b = (v, 0) ↔ l = Lib.itoa v ∧ a ≤ v ∧ v ≤ b := by
  constructor
  · intro h
    cases hw : wholeB l
    · rw [intW_2 (by omega) hw] at h; simp at h
    · have hp := parse_ev hw
      by_cases hr : -9223372036854775808 ≤ ev l ∧ ev l ≤ 9223372036854775807
      · rw [if_pos hr] at hp
        by_cases h3 : ev l < a ∨ b < ev l
        · rw [intW_3 (by omega) hw hp h3] at h; simp at h
        · rw [intW_4 (by omega) hw hp (by omega) (by omega)] at h
          simp only [Prod.mk.injEq, and_true] at h
          subst h
          exact ⟨(itoa_ev hw).symm, by omega, by omega⟩
      · rw [if_neg hr] at hp
        rw [intW_5 (by omega) hw (fun v e => by rw [hp] at e; cases e)] at h; simp at h
  · rintro ⟨rfl, h1, h2⟩
    obtain ⟨hw, he⟩ := whole_itoa v
    have hp := parse_ev hw
    rw [he, if_pos (by omega)] at hp
    exact intW_4 (by omega) hw hp (by omega) (by omega)
theorem intW_itoa (n : Int) (h0 : -9223372036854775808 ≤ n) (h1 : n ≤ 9223372036854775807) : intW (Lib.itoa n) (-9223372036854775808) 9223372036854775807 = (n, 0) :=
  (intW_iff (by omega) (by omega) (by omega)).2 ⟨rfl, h0, h1⟩

/-! The reference's loop. -/
def stepW (neg : Bool) (n : Int) (c : UInt8) : Int :=
  if digitB (c.toNat : Int) then wrap64 (wrap64 (10 * n) + (if neg then -((c.toNat : Int) - 48) else (c.toNat : Int) - 48)) else n
def negOf (l : List UInt8) : Bool := decide (l.headD 0 = 45)
def foldW (l : List UInt8) : Int := l.foldl (stepW (negOf l)) 0
def exV (neg : Bool) (acc : Int) : List UInt8 → Int
  | [] => acc
  | c :: r => exV neg (10 * acc + (if neg then -((c.toNat : Int) - 48) else (c.toNat : Int) - 48)) r
theorem wrap_step (x d : Int) : wrap64 (wrap64 (10 * wrap64 x) + d) = wrap64 (10 * x + d) := by unfold wrap64; omega
theorem fold_ex (neg : Bool) (l : List UInt8) : ∀ acc, inR 48 57 l = true → l.foldl (stepW neg) (wrap64 acc) = wrap64 (exV neg acc l) := by
  induction l with
  | nil => intro acc _; rfl
  | cons c r ih =>
    intro acc h
    obtain ⟨⟨h1, h2⟩, hr⟩ := inR_cons.1 h
    have hd : digitB (c.toNat : Int) = true := by simp [digitB, h1, h2]
    show r.foldl (stepW neg) (stepW neg (wrap64 acc) c) = wrap64 (exV neg _ r)
    rw [← ih _ hr]
    congr 1
    unfold stepW
    rw [if_pos hd, wrap_step]
theorem ex_val (l : List UInt8) : ∀ (acc : Nat), inR 48 57 l = true → exV false (acc : Int) l = ((val acc l : Nat) : Int) ∧ exV true (-(acc : Int)) l = -((val acc l : Nat) : Int) := by
  induction l with
  | nil => intro acc _; exact ⟨rfl, rfl⟩
  | cons c r ih =>
    intro acc h
    obtain ⟨⟨h1, h2⟩, hr⟩ := inR_cons.1 h
    obtain ⟨e1, e2⟩ := ih (acc * 10 + (c.toNat - 48)) hr
    constructor
    · show exV false (10 * (acc : Int) + ((c.toNat : Int) - 48)) r = _
      rw [show (10 * (acc : Int) + ((c.toNat : Int) - 48)) = ((acc * 10 + (c.toNat - 48) : Nat) : Int) by omega, e1]; rfl
    · show exV true (10 * (-(acc : Int)) + -((c.toNat : Int) - 48)) r = _
      rw [show (10 * (-(acc : Int)) + -((c.toNat : Int) - 48)) = -((acc * 10 + (c.toNat - 48) : Nat) : Int) by omega, e2]; rfl
theorem foldW_ev {l : List UInt8} (h : wholeB l = true) : foldW l = wrap64 (ev l) := by
  rcases whole_cases h with rfl | ⟨c, r, rfl, h1, h2⟩ | ⟨c, r, rfl, h1, h2⟩
  · decide +kernel
  · have hn : negOf (45 :: c :: r) = true := by simp [negOf]
    unfold foldW
    rw [hn]
    have hs : stepW true 0 45 = 0 := by decide +kernel
    show (c :: r).foldl (stepW true) (stepW true 0 45) = _
    rw [hs]
    have := fold_ex true (c :: r) 0 h2
    rw [show wrap64 0 = 0 by unfold wrap64; omega] at this
    rw [this, ev_neg]
    have e := (ex_val (c :: r) 0 h2).2
    rw [show (-((0 : Nat) : Int)) = 0 from rfl] at e
    rw [e]
  · have hc : c ≠ 45 := by intro e; subst e; have := (inR_cons.1 h2).1.1; simp at this
    have hn : negOf (c :: r) = false := by simp [negOf, hc]
    unfold foldW
    rw [hn]
    have := fold_ex false (c :: r) 0 h2
    rw [show wrap64 0 = 0 by unfold wrap64; omega] at this
    rw [this, ev_pos hc]
    have e := (ex_val (c :: r) 0 h2).1
    rw [show (((0 : Nat) : Int)) = 0 from rfl] at e
    rw [e]

/-- What the reference returns. -/
def rintW (l : List UInt8) (a b : Int) : Int × Int :=
  if b < a then (0, 2) else if wholeB l = false then (0, 6) else if 20 < l.length then (0, 7) else
    if Lib.itoa (foldW l) ≠ l ∨ foldW l < a ∨ b < foldW l then (0, 7) else (foldW l, 0)
theorem wrap_range (n : Int) : -9223372036854775808 ≤ wrap64 n ∧ wrap64 n ≤ 9223372036854775807 := by unfold wrap64; omega
theorem rintW_eq (l : List UInt8) (a b : Int) : rintW l a b = intW l a b := by
  by_cases h1 : b < a
  · rw [intW_1 h1, rintW, if_pos h1]
  cases hw : wholeB l
  · rw [intW_2 h1 hw, rintW, if_neg h1, if_pos hw]
  have hp := parse_ev hw
  have hf := foldW_ev hw
  have hwr := wrap_range (ev l)
  rw [rintW, if_neg h1, if_neg (by rw [hw]; simp), hf]
  by_cases hr : -9223372036854775808 ≤ ev l ∧ ev l ≤ 9223372036854775807
  · rw [if_pos hr] at hp
    have hl := itoa_len20 (ev l) hr.1 hr.2
    rw [itoa_ev hw] at hl
    rw [IntWalk.wrap64_in _ hr, itoa_ev hw, if_neg (by omega)]
    by_cases h3 : ev l < a ∨ b < ev l
    · rw [intW_3 h1 hw hp h3, if_pos (.inr h3)]
    · rw [intW_4 h1 hw hp (by omega) (by omega), if_neg (by simp; omega)]
  · rw [if_neg hr] at hp
    rw [intW_5 h1 hw (fun v e => by rw [hp] at e; cases e)]
    split
    · rfl
    · rw [if_pos]
      left
      intro e
      have h2 := (whole_itoa (wrap64 (ev l))).2
      rw [e] at h2
      omega
end Go.Proofs.YtdncfignegagjaaDoor
