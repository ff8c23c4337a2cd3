import Derived.Test.YtmmgbofhbnflkaaYRE
import Derived.Test.YtmmgbofhbnflkaaIQ16
namespace Go.Proofs.Ytmmgbofhbnflkaa
open Go.RowKit

/-! The reference's Root, where the number has at most 63 bits. -/
theorem examW_one {a : Nat} (h1 : (dg a).length ≤ 512) : examW [dg a] = 0 := by
  unfold examW
  have a1 : ¬ 512 < (dg a).length := by omega
  simp [a1, dg_last]
theorem len_two64 {a : Nat} (h : a < 2 ^ 64) : (dg a).length ≤ 2 := by
  refine dg_le.2 ?_
  have : LB ^ 2 = 2 ^ 64 := by decide +kernel
  omega
theorem root_below {r k m : Nat} (hk : 1 ≤ k) (h : r ^ k ≤ m) : r ≤ m := by
  rcases Nat.eq_zero_or_pos r with e | e
  · omega
  · have : r ^ 1 ≤ r ^ k := Nat.pow_le_pow_right e hk
    rw [Nat.pow_one] at this; omega
theorem root_begin {m S k : Nat} (hk : 1 ≤ k) (h : m < 2 ^ S) : m < (0 + 2 ^ (S / k + 1)) ^ k := by
  rw [Nat.zero_add, ← Nat.pow_mul]
  refine Nat.lt_of_lt_of_le h (Nat.pow_le_pow_right (by omega) ?_)
  have h1 := Nat.lt_mul_div_succ S (show 0 < k by omega)
  rw [Nat.mul_comm] at h1
  omega
def RtRel (w : World) (m k : Nat) (vv iv : Value) (wr : World) : Prop :=
  ∃ (i r : Nat) (A : Option Addr) (n c : Nat), i ≤ 64 ∧ ((i = 0 ∧ iv = .int .i64 (-1)) ∨ ∃ j : Nat, i = j + 1 ∧ iv = .int .i64 (j : Int)) ∧ vv = .slice A n c ∧ Num wr wr.heap.size (.slice A n c) r ∧ r ^ k ≤ m ∧ m < (r + 2 ^ i) ^ k ∧ Below w.heap.size w wr
theorem shift_one (v : Value) (j : Nat) (W : World) (hv : Num W W.heap.size v 1) (hj : j ≤ 63) :
    Calls Try.prog 83 #[v, .int .i64 (j : Int)] W fun e w' => ∃ A n c, e = .returned (.tuple #[.slice A n c, .int .i64 0]) ∧ Num w' w'.heap.size (.slice A n c) (2 ^ j) ∧ Below W.heap.size W w' := by
  have hb : bitsOf 1 = 1 := by decide +kernel
  refine (rShift_left v (dg 1) j W ⟨hv, by rw [len_one]; omega⟩ (examW_one (by rw [len_one]; omega)) (by omega) (by rw [val_dg, hb]; omega)).mono ?_
  rintro e w' ⟨u, he, hn, hb'⟩
  rw [val_dg, Nat.one_mul] at hn
  obtain ⟨A, c, rfl, -⟩ := hn.form
  exact ⟨A, _, c, he, hn, hb'⟩
theorem plus_forms {u v : Value} {m n : Nat} {W : World} (ha : Num W W.heap.size u m) (hb : Num W W.heap.size v n) (h1 : (dg m).length ≤ 1000000) (h2 : (dg n).length ≤ 1000000) :
    Calls Try.prog 84 #[u, v] W fun e w' => ∃ A n1 c, e = .returned (.slice A n1 c) ∧ Num w' w'.heap.size (.slice A n1 c) (m + n) ∧ Below W.heap.size W w' :=
  (rplus_num ha hb h1 h2).mono fun e w' h => by
    obtain ⟨v, he, hn, hb⟩ := h
    obtain ⟨A, c, rfl, -⟩ := hn.form
    exact ⟨A, _, c, he, hn, hb⟩

set_option maxRecDepth 100000 in
set_option maxHeartbeats 4000000 in
theorem rRoot_small (va : Value) (la : List Nat) (k : Nat) (w : World) (ha : Arg w va la) (hex0 : examW [la] = 0) (hm63 : val la < 2 ^ 63) (hk : 1 ≤ k) (hk2 : k ≤ 62) :
    Calls Try.prog 59 #[va, .int .i64 (k : Int)] w fun e w' => ∃ (A : Option Addr) (n c r : Nat), e = .returned (.tuple #[.slice A n c, .int .i64 0]) ∧ Num w' w'.heap.size (.slice A n c) r ∧ r ^ k ≤ val la ∧ val la < (r + 1) ^ k ∧ Below w.heap.size w w' := by
  have hex := rexam1 va la w ha
  rw [hex0] at hex
  obtain ⟨hnum, hlen, hdg⟩ := ha.num hex0 (by simp)
  obtain ⟨A, capa, rfl, -⟩ := ha.1.form
  obtain ⟨m, hm⟩ : ∃ m, m = val la := ⟨_, rfl⟩
  rw [← hm] at hnum hlen hdg hm63 ⊢
  generalize la.length = l1 at *
  have HNM := Lib.hid (fun W (h : Below w.heap.size w W) => Num.up hnum h)
  obtain ⟨S, hS⟩ : ∃ S, S = bitsOf m := ⟨_, rfl⟩
  have hS63 : S ≤ 63 := by rw [hS, bits_le_iff]; exact hm63
  have hmS : m < 2 ^ S := by rw [hS]; exact bits_lt m
  have hsz := fun W (h : Below w.heap.size w W) => rsize_any (.slice A l1 capa) m W.heap.size W (HNM.out W h) (by omega)
  rw [← hS] at hsz
  have hord := fun W v n (h : Below w.heap.size w W) (hv : Num W W.heap.size v n) (hn : (dg n).length ≤ 1000000) => rorder_num hv (HNM.out W h) hn (by omega)
  have hbeg := root_begin hk hmS
  obtain ⟨q, hq⟩ : ∃ q, q = S / k := ⟨_, rfl⟩
  rw [← hq] at hbeg
  have hq63 : q ≤ 63 := by rw [hq]; exact Nat.le_trans (Nat.div_le_self _ _) hS63
  have k1 : (1 : Int) ≤ (k : Int) := by omega
  have k2 : (k : Int) ≤ 62 := by omega
  have k3 : (k : Int) ≤ 64 := by omega
  have k4 : (k : Int) ≠ 0 := by omega
  have k5 : ((k : Int) == 0) = false := by simpa using k4
  have e1 : (S : Int).tdiv (k : Int) = (q : Int) := by
    rw [Int.tdiv_eq_ediv_of_nonneg (Int.natCast_nonneg _), hq]
    exact (Int.natCast_ediv S k).symm
  have q0 : (0 : Int) ≤ (q : Int) := Int.natCast_nonneg _
  have i1 : IntKind.i64.wrap (q : Int) = (q : Int) := IntWalk.i64_in _ (by omega)
  have HEX := Lib.hid hex
  have HSZ := Lib.hid hsz
  have HORD := Lib.hid hord
  have HBEG := Lib.hid hbeg
  have HM63 := Lib.hid hm63
  have HS63 := Lib.hid hS63
  have HQ63 := Lib.hid hq63
  have HK := Lib.hid hk
  have HK2 := Lib.hid hk2
  have HLN := Lib.hid hlen
  clear hex hsz hord hbeg hm63 hS63 hq63 hlen hq hS hmS hdg hm hnum ha hex0
  go_enter Try.func59, Try.ntmps59
  go_wp2_with fail
  refine HEX.out.mono ?_
  rintro e w1 ⟨he, hb1⟩
  subst he
  have HB1 := Lib.hid hb1
  have HS1 := Lib.hid (HSZ.out w1 hb1)
  clear hb1
  go_wp2_with fail
  refine HS1.out.mono ?_
  rintro e w2 ⟨he, hd⟩
  subst he
  have HB2 := Lib.hid (HB1.out.trans (hd.below.mono HB1.out.size))
  clear hd HS1 HB1
  go_wp2_with fail
  go_loopw [7, 8] (fun vv iv wr => RtRel w m k vv iv wr) (fun _ i _ => (intOf i + 1).toNat)
  case atStart =>
    exact ⟨q + 1, 0, none, 0, 0, by have := HQ63.out; omega, .inr ⟨q, rfl, rfl⟩, rfl, Num.zero _ _, by rw [Nat.zero_pow (by have := HK.out; omega)]; exact Nat.zero_le _, HBEG.out, HB2.out⟩
  case round =>
    obtain ⟨i, r, A1, n1, c1, hi, hcase, rfl, hnum, hr1, hr2, hbl⟩ := hrel
    rcases hcase with ⟨rfl, rfl⟩ | ⟨j, rfl, rfl⟩
    · rw [Nat.pow_zero] at hr2
      have HN := Lib.hid hnum
      have HR1 := Lib.hid hr1
      have HR2 := Lib.hid hr2
      have HBL := Lib.hid hbl
      clear hnum hr1 hr2 hbl hi
      go_wp2_with fail
      go_ret2
      exact ⟨_, _, _, r, rfl, HN.out, HR1.out, HR2.out, HBL.out⟩
    · have j0 : (0 : Int) ≤ (j : Int) := Int.natCast_nonneg _
      have jb : j < 4294967296 := by omega
      have hj : j ≤ 63 := by omega
      have h2j : 2 ^ j ≤ 2 ^ 63 := Nat.pow_le_pow_right (by omega) hj
      have hrm := root_below HK.out hr1
      have hr63 : r < 2 ^ 63 := Nat.lt_of_le_of_lt hrm HM63.out
      have hp63 : (2 : Nat) ^ 63 + 2 ^ 63 = 2 ^ 64 := rfl
      have hlr : (dg r).length ≤ 2 := len_two64 (by omega)
      have hlj : (dg (2 ^ j)).length ≤ 2 := len_two64 (by omega)
      have hlt : (dg (r + 2 ^ j)).length ≤ 2 := len_two64 (by omega)
      have hlp := len_pow (r + 2 ^ j) k 2 hlt
      have hlp512 : (dg ((r + 2 ^ j) ^ k)).length ≤ 512 := by have := HK2.out; omega
      have hnext : m < (r + 2 ^ j + 2 ^ j) ^ k := by
        rw [Nat.add_assoc, show 2 ^ j + 2 ^ j = 2 ^ (j + 1) by rw [Nat.pow_succ]; omega]
        exact hr2
      have HN := Lib.hid hnum
      have HR1 := Lib.hid hr1
      have HNX := Lib.hid hnext
      have HBL := Lib.hid hbl
      have HLR := Lib.hid hlr
      have HLJ := Lib.hid hlj
      have HLT := Lib.hid hlt
      have HLP := Lib.hid hlp512
      have HJ := Lib.hid hj
      have HONE := Lib.hid (of_one_forms wr)
      clear hnum hr1 hr2 hbl hi h2j hrm hr63 hp63 hlr hlj hlt hlp hlp512 hnext hj
      go_wp2_with fail
      refine HONE.out.mono ?_
      rintro e w3 ⟨A3, n3, c3, he, hn3, hb3⟩
      subst he
      have HSH := Lib.hid (shift_one _ j w3 hn3 HJ.out)
      have HN3 := Lib.hid (HN.out.up hb3)
      have HB3 := Lib.hid (HBL.out.trans (hb3.mono HBL.out.size))
      clear hn3 hb3 HN HBL HONE
      go_wp2_with fail
      refine HSH.out.mono ?_
      rintro e w4 ⟨A4, n4, c4, he, hn4, hb4⟩
      subst he
      have HN4 := Lib.hid (HN3.out.up hb4)
      have HPL := Lib.hid (plus_forms HN4.out hn4 (by have := HLR.out; omega) (by have := HLJ.out; omega))
      have HB4 := Lib.hid (HB3.out.trans (hb4.mono HB3.out.size))
      clear hn4 hb4 HN3 HB3 HSH
      go_wp2_with fail
      refine HPL.out.mono ?_
      rintro e w5 ⟨A5, n5, c5, he, hn5, hb5⟩
      subst he
      have HPW := Lib.hid (rpower_fits hn5 (by have := HLT.out; omega) (by have := HK2.out; omega) HLP.out)
      have HN5 := Lib.hid (HN4.out.up hb5)
      have HT5 := Lib.hid hn5
      have HB5 := Lib.hid (HB4.out.trans (hb5.mono HB4.out.size))
      clear hn5 hb5 HN4 HB4 HPL
      go_wp2_with fail
      refine HPW.out.mono ?_
      rintro e w6 ⟨A6, n6, c6, he, hn6, hb6⟩
      subst he
      have HN6 := Lib.hid (HN5.out.up hb6)
      have HT6 := Lib.hid (HT5.out.up hb6)
      have HB6 := Lib.hid (HB5.out.trans (hb6.mono HB5.out.size))
      have hor := HORD.out w6 _ _ HB6.out hn6 (by have := HLP.out; omega)
      clear hn6 hb6 HN5 HT5 HB5 HPW
      by_cases hle : (r + 2 ^ j) ^ k ≤ m
      · obtain ⟨c, hc, hc0⟩ : ∃ c, cmpI ((r + 2 ^ j) ^ k) m = c ∧ c ≤ 0 := ⟨_, rfl, by unfold cmpI; (repeat' split) <;> omega⟩
        rw [hc] at hor
        have HOR := Lib.hid hor
        have HLE := Lib.hid hle
        clear hor hle hc
        go_wp2_with fail
        refine HOR.out.mono ?_
        rintro e w7 ⟨he, hw⟩
        subst he
        subst hw
        go_wp2_with fail
        go_roundw
        case rel =>
          refine ⟨j, r + 2 ^ j, A5, n5, c5, by have := HJ.out; omega, ?_, rfl, HT6.out, HLE.out, HNX.out, HB6.out⟩
          rcases Nat.eq_zero_or_pos j with h | h
          · left; exact ⟨h, by rw [h]; rfl⟩
          · right; exact ⟨j - 1, by omega, by congr 1; omega⟩
        case measure => simp [intOf]; try omega
      · obtain ⟨c, hc, hc0⟩ : ∃ c, cmpI ((r + 2 ^ j) ^ k) m = c ∧ ¬ c ≤ 0 := ⟨_, rfl, by unfold cmpI; (repeat' split) <;> omega⟩
        rw [hc] at hor
        have HOR := Lib.hid hor
        have HLE := Lib.hid hle
        clear hor hle hc
        go_wp2_with fail
        refine HOR.out.mono ?_
        rintro e w7 ⟨he, hw⟩
        subst he
        subst hw
        go_wp2_with fail
        go_roundw
        case rel =>
          refine ⟨j, r, A1, n1, c1, by have := HJ.out; omega, ?_, rfl, HN6.out, HR1.out, Nat.lt_of_not_le HLE.out, HB6.out⟩
          rcases Nat.eq_zero_or_pos j with h | h
          · left; exact ⟨h, by rw [h]; rfl⟩
          · right; exact ⟨j - 1, by omega, by congr 1; omega⟩
        case measure => simp [intOf]; try omega
end Go.Proofs.Ytmmgbofhbnflkaa
