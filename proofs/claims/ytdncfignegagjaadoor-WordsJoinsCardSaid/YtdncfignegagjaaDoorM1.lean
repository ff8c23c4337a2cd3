import Derived.Test.YtdncfignegagjaaDoorW4
import Derived.Lib.ItoaLen
import Derived.Lib.ParseIntBTie
namespace Go.Proofs.YtdncfignegagjaaDoor
open Go.RowKit

/-! Plain numbers: digits, values, and reading back. -/
def val (acc : Nat) : List UInt8 → Nat
  | [] => acc
  | c :: r => val (acc * 10 + (c.toNat - 48)) r
theorem val_append (l : List UInt8) : ∀ (acc : Nat) (c : UInt8), val acc (l ++ [c]) = val acc l * 10 + (c.toNat - 48) := by
  induction l with
  | nil => intro acc c; rfl
  | cons x r ih => intro acc c; exact ih _ c
theorem val_ge (l : List UInt8) : ∀ (acc : Nat), acc ≤ val acc l := by
  induction l with
  | nil => intro acc; exact Nat.le_refl _
  | cons x r ih => intro acc; exact Nat.le_trans (by omega) (ih _)
theorem inR_cons {lo hi : Int} {c : UInt8} {r : List UInt8} : inR lo hi (c :: r) = true ↔ (lo ≤ (c.toNat : Int) ∧ (c.toNat : Int) ≤ hi) ∧ inR lo hi r = true := by
  unfold inR; simp
theorem inR_append {lo hi : Int} {l r : List UInt8} : inR lo hi (l ++ r) = true ↔ inR lo hi l = true ∧ inR lo hi r = true := by
  unfold inR; rw [List.all_append]; simp
theorem puM (l : List UInt8) : ∀ acc, inR 48 57 l = true → acc ≤ 18446744073709551615 →
    Lib.parseUintM 18446744073709551615 acc l = if val acc l ≤ 18446744073709551615 then .ok (val acc l) else .range := by
  induction l with
  | nil => intro acc _ h; unfold Lib.parseUintM val; rw [if_pos h]
  | cons c r ih =>
    intro acc hd ha
    obtain ⟨⟨h1, h2⟩, hr⟩ := inR_cons.1 hd
    unfold Lib.parseUintM val
    rw [if_pos (by omega)]
    have hge := val_ge r (acc * 10 + (c.toNat - 48))
    by_cases h3 : 1844674407370955162 ≤ acc
    · rw [if_pos h3, if_neg (by omega)]
    · rw [if_neg h3]
      by_cases h4 : 18446744073709551615 < acc * 10 + (c.toNat - 48)
      · rw [if_pos h4, if_neg (by omega)]
      · rw [if_neg h4]; exact ih _ hr (by omega)

def ev : List UInt8 → Int
  | [] => 0
  | c :: r => if c = 45 then -((val 0 r : Nat) : Int) else ((val 0 (c :: r) : Nat) : Int)

theorem ev_neg (r : List UInt8) : ev (45 :: r) = -((val 0 r : Nat) : Int) := by simp [ev]
theorem ev_pos {c : UInt8} (h : c ≠ 45) (r : List UInt8) : ev (c :: r) = ((val 0 (c :: r) : Nat) : Int) := by simp [ev, h]
theorem whole_cases {l : List UInt8} (h : wholeB l = true) : l = [48] ∨ (∃ c r, l = 45 :: c :: r ∧ c.toNat ≠ 48 ∧ inR 48 57 (c :: r) = true) ∨ (∃ c r, l = c :: r ∧ c.toNat ≠ 48 ∧ inR 48 57 (c :: r) = true) := by
  by_cases h0 : l = [48]
  · exact .inl h0
  right
  unfold wholeB at h
  rw [decide_eq_false h0] at h
  simp only [Bool.false_or, Bool.and_eq_true, decide_eq_true_eq] at h
  obtain ⟨⟨h1, h2⟩, h3⟩ := h
  unfold Lib.trimPrefix at h1 h2 h3
  by_cases hp : Lib.hasPrefix l [45] = true
  · left
    rw [if_pos hp] at h1 h2 h3
    cases l with
    | nil => simp at h1
    | cons c r =>
      have hc : c = 45 := by unfold Lib.hasPrefix at hp; simp [List.isPrefixOf] at hp; exact hp.symm
      subst hc
      simp only [List.length_cons, List.length_nil, List.drop_succ_cons, List.drop_zero] at h1 h2 h3
      cases r with
      | nil => exact absurd rfl h1
      | cons d r => exact ⟨d, r, rfl, h2, h3⟩
  · right
    rw [if_neg hp] at h1 h2 h3
    cases l with
    | nil => exact absurd rfl h1
    | cons c r => exact ⟨c, r, rfl, h2, h3⟩

theorem dig_back {c : UInt8} (h1 : 48 ≤ (c.toNat : Int)) : UInt8.ofNat (48 + (c.toNat - 48)) = c := by
  rw [show 48 + (c.toNat - 48) = c.toNat by omega]; simp
theorem dec_val : ∀ (n : Nat) (l : List UInt8), l.length = n + 1 → inR 48 57 l = true → (l.headD 0).toNat ≠ 48 → Lib.decDigits (val 0 l) = l ∧ 1 ≤ val 0 l := by
  intro n
  induction n with
  | zero =>
    intro l hl hd hh
    match l, hl with
    | [c], _ =>
      obtain ⟨⟨h1, h2⟩, _⟩ := inR_cons.1 hd
      have hh : c.toNat ≠ 48 := hh
      have hv : val 0 [c] = c.toNat - 48 := by
        show 0 * 10 + (c.toNat - 48) = c.toNat - 48
        omega
      rw [hv]
      refine ⟨?_, by omega⟩
      unfold Lib.decDigits
      rw [dif_pos (by omega), dig_back h1]
  | succ n ih =>
    intro l hl hd hh
    have hne : l ≠ [] := by intro e; rw [e] at hl; simp at hl
    obtain ⟨i, x, rfl⟩ : ∃ i x, l = i ++ [x] := ⟨l.dropLast, l.getLast hne, (List.dropLast_concat_getLast hne).symm⟩
    have hil : i.length = n + 1 := by simp at hl; exact hl
    obtain ⟨hi, hx⟩ := inR_append.1 hd
    obtain ⟨⟨h1, h2⟩, _⟩ := inR_cons.1 hx
    have hhd : (i ++ [x]).headD 0 = i.headD 0 := by cases i with | nil => simp at hil | cons a b => rfl
    obtain ⟨e1, e2⟩ := ih i hil hi (by rw [← hhd]; exact hh)
    rw [val_append]
    refine ⟨?_, by omega⟩
    unfold Lib.decDigits
    rw [dif_neg (by omega), show (val 0 i * 10 + (x.toNat - 48)) / 10 = val 0 i by omega, show (val 0 i * 10 + (x.toNat - 48)) % 10 = x.toNat - 48 by omega, e1, dig_back h1]

theorem val_dec : ∀ (n u : Nat), u < n → val 0 (Lib.decDigits u) = u ∧ inR 48 57 (Lib.decDigits u) = true ∧ (1 ≤ u → ((Lib.decDigits u).headD 0).toNat ≠ 48) ∧ Lib.decDigits u ≠ [] := by
  intro n
  induction n with
  | zero => intro u h; omega
  | succ n ih =>
    intro u h
    unfold Lib.decDigits
    by_cases hu : u < 10
    · rw [dif_pos hu]
      have ht : (UInt8.ofNat (48 + u)).toNat = 48 + u := by simp; omega
      refine ⟨?_, ?_, ?_, by simp⟩
      · show 0 * 10 + ((UInt8.ofNat (48 + u)).toNat - 48) = u; rw [ht]; omega
      · rw [inR_cons, ht]; refine ⟨⟨by omega, by omega⟩, rfl⟩
      · intro h1; show (UInt8.ofNat (48 + u)).toNat ≠ 48; rw [ht]; omega
    · rw [dif_neg hu]
      obtain ⟨a, b, c, d⟩ := ih (u / 10) (by omega)
      have ht : (UInt8.ofNat (48 + u % 10)).toNat = 48 + u % 10 := by simp; omega
      refine ⟨?_, ?_, ?_, by simp⟩
      · rw [val_append, a, ht]; omega
      · rw [inR_append]; refine ⟨b, ?_⟩; rw [inR_cons, ht]; exact ⟨⟨by omega, by omega⟩, rfl⟩
      · intro _
        have : (Lib.decDigits (u / 10) ++ [UInt8.ofNat (48 + u % 10)]).headD 0 = (Lib.decDigits (u / 10)).headD 0 := by
          cases hq : Lib.decDigits (u / 10) with
          | nil => exact absurd hq d
          | cons x y => rfl
        rw [this]; exact c (by omega)
theorem dec_len : ∀ (k u : Nat), u < 10 ^ (k + 1) → (Lib.decDigits u).length ≤ k + 1 := by
  intro k
  induction k with
  | zero => intro u h; unfold Lib.decDigits; rw [dif_pos (by omega)]; simp
  | succ k ih =>
    intro u h
    unfold Lib.decDigits
    split
    · simp
    · have := ih (u / 10) (by rw [Nat.pow_succ] at h; omega)
      simp; omega
theorem itoa_len20 (n : Int) (h0 : -9223372036854775808 ≤ n) (h1 : n ≤ 9223372036854775807) : (Lib.itoa n).length ≤ 20 := by
  unfold Lib.itoa
  split
  · have := dec_len 18 n.natAbs (by simp only [Nat.reduceAdd, Nat.reducePow]; omega)
    simp; omega
  · have := dec_len 18 n.toNat (by simp only [Nat.reduceAdd, Nat.reducePow]; omega)
    omega

theorem itoa_ev {l : List UInt8} (h : wholeB l = true) : Lib.itoa (ev l) = l := by
  rcases whole_cases h with rfl | ⟨c, r, rfl, h1, h2⟩ | ⟨c, r, rfl, h1, h2⟩
  · have : ev [48] = 0 := by decide
    rw [this]; unfold Lib.itoa; rw [if_neg (by omega)]; unfold Lib.decDigits; rfl
  · obtain ⟨e1, e2⟩ := dec_val r.length (c :: r) rfl h2 h1
    rw [ev_neg]; unfold Lib.itoa
    rw [if_pos (by omega), Int.natAbs_neg, Int.natAbs_natCast, e1]
  · obtain ⟨e1, e2⟩ := dec_val r.length (c :: r) rfl h2 h1
    have hc : c ≠ 45 := by intro e; subst e; have := (inR_cons.1 h2).1.1; simp at this
    rw [ev_pos hc]; unfold Lib.itoa
    rw [if_neg (by omega), Int.toNat_natCast, e1]

theorem whole_itoa (n : Int) : wholeB (Lib.itoa n) = true ∧ ev (Lib.itoa n) = n := by
  unfold Lib.itoa
  by_cases hn : n < 0
  · rw [if_pos hn]
    obtain ⟨a, b, c, d⟩ := val_dec (n.natAbs + 1) n.natAbs (by omega)
    have hc := c (by omega)
    constructor
    · unfold wholeB
      have ht : Lib.trimPrefix (45 :: Lib.decDigits n.natAbs) [45] = Lib.decDigits n.natAbs := by
        unfold Lib.trimPrefix Lib.hasPrefix; simp [List.isPrefixOf]
      rw [ht, decide_eq_true d, decide_eq_true hc, b]; simp
    · rw [ev_neg, a]; omega
  · rw [if_neg hn]
    obtain ⟨a, b, c, d⟩ := val_dec (n.toNat + 1) n.toNat (by omega)
    cases hq : Lib.decDigits n.toNat with
    | nil => exact absurd hq d
    | cons x r =>
      rw [hq] at a b c
      have hx : x ≠ 45 := by intro e; subst e; have := (inR_cons.1 b).1.1; simp at this
      constructor
      · by_cases h1 : 1 ≤ n.toNat
        · have hc := c h1
          unfold wholeB
          have ht : Lib.trimPrefix (x :: r) [45] = x :: r := by
            unfold Lib.trimPrefix Lib.hasPrefix; simp [List.isPrefixOf]; intro e; exact absurd e.symm hx
          rw [ht, decide_eq_true (p := x :: r ≠ []) (by simp), decide_eq_true hc, b]; simp
        · have h0 : n.toNat = 0 := by omega
          rw [h0] at hq
          have : Lib.decDigits 0 = [48] := by unfold Lib.decDigits; rfl
          rw [this] at hq
          rw [← hq]; decide
      · rw [ev_pos hx, a]; omega
end Go.Proofs.YtdncfignegagjaaDoor
