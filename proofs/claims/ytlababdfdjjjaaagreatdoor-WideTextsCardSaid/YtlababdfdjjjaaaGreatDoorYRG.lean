import Derived.Test.YtlababdfdjjjaaaGreatDoorYR13
namespace Go.Proofs.YtlababdfdjjjaaaGreatDoor
open Go.RowKit

/-! The reference's Shift to the right. -/
theorem sr_step {m N k j : Nat} (hj : k = j + N) : m % 2 ^ (k + 1) / 2 ^ N = m % 2 ^ k / 2 ^ N + 2 ^ j * (m / 2 ^ k % 2) := by
  rw [Nat.mod_pow_succ]
  generalize m / 2 ^ k % 2 = b
  rw [show 2 ^ k * b = 2 ^ N * (2 ^ j * b) by rw [hj, Nat.pow_add]; ac_rfl, Nat.add_mul_div_left _ _ (Nat.two_pow_pos N)]
theorem sr_lt {m N k j : Nat} (hj : k = j + N) : m % 2 ^ k / 2 ^ N < 2 ^ j := by
  rw [Nat.div_lt_iff_lt_mul (Nat.two_pow_pos N), ← Nat.pow_add, ← hj]
  exact Nat.mod_lt _ (Nat.two_pow_pos k)
theorem sr_low {m N k : Nat} (h : k ≤ N) : m % 2 ^ k / 2 ^ N = 0 :=
  Nat.div_eq_of_lt (Nat.lt_of_lt_of_le (Nat.mod_lt _ (Nat.two_pow_pos k)) (Nat.pow_le_pow_right (by omega) h))
def SrRel (w : World) (m N R g : Nat) (iv : Value) (wr : World) : Prop :=
  ∃ (k : Nat) (Q : List Nat), k ≤ R ∧ iv = .int .i64 (k : Int) ∧ Q.length = 512 ∧ okL Q ∧ Row wr g Q ∧ val Q = m % 2 ^ k / 2 ^ N ∧ Below w.heap.size w wr

set_option maxRecDepth 100000 in
set_option maxHeartbeats 4000000 in
theorem rShift_right (va : Value) (la : List Nat) (N : Nat) (n : Int) (w : World) (ha : Arg w va la) (hex0 : examW [la] = 0) (hN : N ≤ 20000) (hn : n = -(N : Int)) :
    Calls Tryz.prog 33 #[va, .int .i64 n] w (Res w (val la / 2 ^ N, 0)) := by
  have hex := rexam1 va la w ha
  rw [hex0] at hex
  obtain ⟨hnum, hlen, hdg⟩ := ha.num hex0 (by simp)
  obtain ⟨m, hm⟩ : ∃ m, m = val la := ⟨_, rfl⟩
  rw [← hm] at hnum hlen hdg ⊢
  have hR : bitsOf m ≤ 32 * (dg m).length := by rw [bits_le_iff, ← LBpow]; exact lt_dg m
  have hmlt := bits_lt m
  have hsz := fun W (h : Below w.heap.size w W) => rsize_any va m w.heap.size W (Num.below hnum h) (by omega)
  have hbt := fun W (h : Below w.heap.size w W) q r x (hx : (dg m)[q]? = some x) (hr : r < 32) => rbit_any va (dg m) q r x w.heap.size W (Lim.below hnum h) hx hr
  obtain ⟨A, capa, rfl, -⟩ := ha.1.form
  obtain ⟨R, hRR⟩ : ∃ R, R = bitsOf m := ⟨_, rfl⟩
  rw [← hRR] at hR hmlt hsz
  have HEX := Lib.hid hex
  have HSZ := Lib.hid hsz
  have HBT := Lib.hid hbt
  have HML := Lib.hid hmlt
  have HRL := Lib.hid hR
  have HLN := Lib.hid hlen
  clear hex hsz hbt hmlt hR hlen ha hnum hdg hm hex0 hRR
  generalize la.length = l1 at *
  have n1 : n ≤ 20000 := by omega
  have n2 : -20000 ≤ n := by omega
  have R0 : (0 : Int) ≤ (R : Int) := Int.natCast_nonneg _
  have hsum : ¬ (16384 : Int) < (R : Int) + n := by have := HRL.out; have := HLN.out; omega
  have HNN := Lib.hid hn
  clear hn
  have hmk := fun W => mkI 512 512 rfl (by omega) W
  rcases Nat.eq_zero_or_pos l1 with hl | hl
  · subst hl
    go_enter Tryz.func33, Tryz.ntmps33
    go_wp2_with fail
    refine HEX.out.mono ?_
    rintro e w1 ⟨he, hb1⟩
    subst he
    have HB1 := Lib.hid hb1
    clear hb1
    have HROW := Lib.hid (Row.new w1 512)
    have HB3 := Lib.hid (HB1.out.trans ((below_al w1 (.cells (zeros 512).toArray 64)).mono HB1.out.size))
    obtain ⟨g, hg⟩ : ∃ g, g = w1.heap.size := ⟨_, rfl⟩
    have HG := Lib.hid (show w.heap.size ≤ g by rw [hg]; exact HB1.out.size)
    go_wp2_with fail
    rw [← hg]
    rw [← hg] at HROW
    clear hmk
    generalize w1.alloc _ = W3 at *
    clear hg HB1
    go_wp2_with fail
    go_loopw [8] (fun iv wr => SrRel w m N R g iv wr) (fun i _ => R - (intOf i).toNat)
    case atStart =>
      exact ⟨0, _, Nat.zero_le _, rfl, by simp, okL_zero _, HROW.out, by rw [Nat.pow_zero, Nat.mod_one, Nat.zero_div]; exact val_zero _, HB3.out⟩
    case round =>
      obtain ⟨k, Q, hk, rfl, hL, hok, hrow, hv, hbl⟩ := hrel
      have k0 : (0 : Int) ≤ (k : Int) := Int.natCast_nonneg _
      have HSC := Lib.hid (HSZ.out wr hbl)
      have HOK := Lib.hid hok
      have HL := Lib.hid hL
      have HRW := Lib.hid hrow
      have HV := Lib.hid hv
      have HBB := Lib.hid hbl
      clear hL hok hrow hv hbl
      by_cases hlt : k < R
      · have hkR : (k : Int) < (R : Int) := by omega
        by_cases hkN : N ≤ k
        · obtain ⟨j, hj⟩ : ∃ j, k = j + N := ⟨k - N, by omega⟩
          obtain ⟨q, t, hqt, ht⟩ : ∃ q t, j = 32 * q + t ∧ t < 32 := ⟨j / 32, j % 32, by omega, by omega⟩
          have hq : q < 512 := by have := HRL.out; have := HLN.out; omega
          obtain ⟨q', t', hk', ht'⟩ : ∃ q t, k = 32 * q + t ∧ t < 32 := ⟨k / 32, k % 32, by omega, by omega⟩
          obtain ⟨x, hx⟩ : ∃ x, (dg m)[q']? = some x := ⟨(dg m)[q']'(by have := HRL.out; omega), List.getElem?_eq_getElem _⟩
          have hxv := limb_val (ok_dg m) q'
          rw [hx, Option.getD_some, val_dg] at hxv
          have hbit := fun W (h : Below w.heap.size w W) => HBT.out W h q' t' x hx ht' (by have := HRL.out; have := HLN.out; omega)
          rw [hxv, bit_of_limb ht', ← hk'] at hbit
          obtain ⟨o, ho⟩ : ∃ o, Q[q]? = some o := ⟨Q[q]'(by have := HL.out; omega), List.getElem?_eq_getElem _⟩
          have hov := limb_val HOK.out q
          rw [ho, Option.getD_some] at hov
          have hol : o < 4294967296 := Lim.lt HOK.out ho
          have hot : o < 2 ^ t := by rw [hov]; exact limb_high (by rw [HV.out, ← hqt]; exact sr_lt hj) ht
          obtain ⟨b, hb⟩ : ∃ b, b = m / 2 ^ k % 2 := ⟨_, rfl⟩
          rw [← hb] at hbit
          have hstep := sr_step (m := m) hj
          rw [← hb] at hstep
          have hpw : LB ^ q * 2 ^ t = 2 ^ j := by rw [LBpow, ← Nat.pow_add, hqt]
          have HSTEP := Lib.hid hstep
          have HPW := Lib.hid hpw
          have HO := Lib.hid ho
          have HBIT := Lib.hid hbit
          have e0 : IntKind.i64.wrap ((k : Int) + n) = (j : Int) := by have := HNN.out; rw [IntWalk.i64_in _ (by omega)]; omega
          have e00 : (0 : Int) ≤ (k : Int) + n := by have := HNN.out; omega
          have e01 : (k : Int) + n = (j : Int) := by have := HNN.out; omega
          have j0 : (0 : Int) ≤ (j : Int) := Int.natCast_nonneg _
          have e1 : (j : Int).tdiv 32 = (q : Int) := by rw [Int.tdiv_eq_ediv_of_nonneg j0]; omega
          have e2 : (j : Int).tmod 32 = (t : Int) := by rw [Int.tmod_eq_emod_of_nonneg j0]; omega
          have q0 : (0 : Int) ≤ (q : Int) := Int.natCast_nonneg _
          have q1 : (q : Int) < 512 := by omega
          have t0 : (0 : Int) ≤ (t : Int) := Int.natCast_nonneg _
          have i1 : IntKind.i64.wrap (q : Int) = (q : Int) := IntWalk.i64_in _ (by omega)
          have i2 : IntKind.i64.wrap (t : Int) = (t : Int) := IntWalk.i64_in _ (by omega)
          have hb2 : b = 0 ∨ b = 1 := by omega
          have hpp : (2 : Int) ^ t % 4294967296 = ((2 ^ t : Nat) : Int) := by
            have h2 : 2 ^ t < 4294967296 := Nat.lt_of_le_of_lt (Nat.le_add_left _ _) (or_high ht hot).2
            rw [show (2 : Int) ^ t = ((2 ^ t : Nat) : Int) by rw [Int.natCast_pow]; rfl]
            generalize 2 ^ t = z at *
            omega
          have HPP := Lib.hid hpp
          have HOR := Lib.hid (or_high ht hot)
          have HOL := Lib.hid hol
          clear hpp hot
          have HJ := Lib.hid (show j ≤ 40000 by have := HRL.out; omega)
          have kb : k < 4294967296 := by omega
          clear hstep hpw ho hbit hb hxv hx hov hj hqt hk' ht'
          go_wp2_with fail
          refine HSC.out.mono ?_
          rintro e wq ⟨he, hd⟩
          subst he
          have hbq := HBB.out.trans (hd.below.mono HBB.out.size)
          have hrowq : Row wq g Q := HRW.out.up hd.below
          have HBQ := Lib.hid hbq
          have HRQ := Lib.hid hrowq
          clear hd hbq hrowq
          have c0 : wq.drew.cell? ⟨g, q, none⟩ = some (.int .u32 (o : Int)) := HRQ.out.cell HO.out
          have f0 : wq.drew.frozen? ⟨g, q, none⟩ = false := HRQ.out.frozen q
          have HBI := Lib.hid (HBIT.out wq.drew HBQ.out.drew)
          go_wp2_with fail
          have e3 : IntKind.i64.wrap (j : Int) = (j : Int) := IntWalk.i64_in _ (by have := HJ.out; omega)
          rcases hb2 with rfl | rfl
          · go_still_tail 22, (by kernel_rfl)
            still_call (HBI.out.mono fun e w' h => ⟨h.1, h.2.symm⟩)
            repeat still_step
            try refine wpStill_nil ?_
            change wpList _ _ _ _ _ wq.drew
            have hrow4 : Row wq.drew g Q := HRQ.out
            have H4 := Lib.hid (hrow4.set q o)
            have HB4 := Lib.hid (HBQ.out.drew)
            clear hrow4 HBI
            generalize wq.drew = w4 at *
            go_wp2_with fail
            rw [or_none HOL.out]
            have hv5 : val (Q.set q o) = m % 2 ^ (k + 1) / 2 ^ N := by
              have h1 := val_set o HO.out
              rw [HSTEP.out]
              have h2 := HV.out
              have h3 := HPW.out
              omega
            go_roundw
            case rel =>
              refine ⟨k + 1, Q.set q o, by omega, by go_num, by rw [List.length_set]; exact HL.out, okL_set HOK.out (by rw [LB_eq]; exact HOL.out), H4.out, hv5, HB4.out.setCell (p := ⟨g, q, none⟩) HG.out _⟩
            case measure => simp [intOf]; omega
          · go_still_tail 22, (by kernel_rfl)
            still_call (HBI.out.mono fun e w' h => ⟨h.1, h.2.symm⟩)
            repeat still_step
            try refine wpStill_nil ?_
            change wpList _ _ _ _ _ wq.drew
            have hrow4 : Row wq.drew g Q := HRQ.out
            have H4 := Lib.hid (hrow4.set q (o + 2 ^ t))
            have HB4 := Lib.hid (HBQ.out.drew)
            clear hrow4 HBI
            generalize wq.drew = w4 at *
            go_wp2_with fail
            rw [HPP.out, HOR.out.1]
            have hv5 : val (Q.set q (o + 2 ^ t)) = m % 2 ^ (k + 1) / 2 ^ N := by
              have h1 := val_set (o + 2 ^ t) HO.out
              rw [HSTEP.out]
              have h2 := HV.out
              have h3 := HPW.out
              rw [Nat.mul_add, h3, h2] at h1
              rw [Nat.mul_one]
              omega
            go_roundw
            case rel =>
              refine ⟨k + 1, Q.set q (o + 2 ^ t), by omega, by go_num, by rw [List.length_set]; exact HL.out, okL_set HOK.out (by rw [LB_eq]; exact HOR.out.2), H4.out, hv5, HB4.out.setCell (p := ⟨g, q, none⟩) HG.out _⟩
            case measure => simp [intOf]; omega
        · have e00 : ¬ (0 : Int) ≤ (k : Int) + n := by have := HNN.out; omega
          have eK : IntKind.i64.wrap ((k : Int) + n) = (k : Int) + n := IntWalk.i64_in _ (by have := HNN.out; have := HRL.out; have := HLN.out; omega)
          have kb : k < 4294967296 := by have := HRL.out; have := HLN.out; omega
          have hv0 : val Q = m % 2 ^ (k + 1) / 2 ^ N := by rw [sr_low (show k + 1 ≤ N by omega), HV.out, sr_low (show k ≤ N by omega)]
          have HV0 := Lib.hid hv0
          clear hv0
          go_wp2_with fail
          refine HSC.out.mono ?_
          rintro e wq ⟨he, hd⟩
          subst he
          have HBQ := Lib.hid (HBB.out.trans (hd.below.mono HBB.out.size))
          have HRQ := Lib.hid (HRW.out.up hd.below)
          clear hd
          go_wp2_with fail
          go_roundw
          case rel =>
            exact ⟨k + 1, Q, by omega, by go_num, HL.out, HOK.out, HRQ.out, HV0.out, HBQ.out⟩
          case measure => simp [intOf]; omega
      · have hkR : ¬ (k : Int) < (R : Int) := by omega
        obtain rfl : k = R := by omega
        go_wp2_with fail
        refine HSC.out.mono ?_
        rintro e wq ⟨he, hd⟩
        subst he
        have hlim := (HRW.out.up hd.below).whole HOK.out 512 (by rw [HL.out]; exact Nat.le_refl _)
        have htr := rtrim_any _ _ _ hlim (by rw [HL.out]; omega)
        rw [HV.out, Nat.mod_eq_of_lt HML.out, HL.out] at htr
        have HT := Lib.hid htr
        have HBQ := Lib.hid (HBB.out.trans (hd.below.mono HBB.out.size))
        clear hlim htr hd
        go_wp2_with fail
        refine HT.out.mono ?_
        rintro e w5 ⟨v, he, hnum, hb2, -⟩
        subst he
        go_wp2_with fail
        go_ret2
        exact ⟨_, rfl, hnum, HBQ.out.trans (hb2.mono HBQ.out.size)⟩
  · have hl0 : (0 : Int) < (l1 : Int) := by omega
    go_enter Tryz.func33, Tryz.ntmps33
    go_wp2_with fail
    refine HEX.out.mono ?_
    rintro e w1 ⟨he, hb1⟩
    subst he
    have HB1 := Lib.hid hb1
    have HS1 := Lib.hid (HSZ.out w1 hb1)
    clear hb1
    have eS : IntKind.i64.wrap ((R : Int) + n) = (R : Int) + n := IntWalk.i64_in _ (by have := HRL.out; have := HLN.out; omega)
    go_wp2_with fail
    refine HS1.out.mono ?_
    rintro e w2 ⟨he, hd⟩
    subst he
    have HB2 := Lib.hid (HB1.out.trans (hd.below.mono HB1.out.size))
    clear hd HS1 HB1
    have HROW := Lib.hid (Row.new w2 512)
    have HB3 := Lib.hid (HB2.out.trans ((below_al w2 (.cells (zeros 512).toArray 64)).mono HB2.out.size))
    obtain ⟨g, hg⟩ : ∃ g, g = w2.heap.size := ⟨_, rfl⟩
    have HG := Lib.hid (show w.heap.size ≤ g by rw [hg]; exact HB2.out.size)
    go_wp2_with fail
    rw [← hg]
    rw [← hg] at HROW
    clear hmk
    generalize w2.alloc _ = W3 at *
    clear hg HB2
    go_wp2_with fail
    go_loopw [8] (fun iv wr => SrRel w m N R g iv wr) (fun i _ => R - (intOf i).toNat)
    case atStart =>
      exact ⟨0, _, Nat.zero_le _, rfl, by simp, okL_zero _, HROW.out, by rw [Nat.pow_zero, Nat.mod_one, Nat.zero_div]; exact val_zero _, HB3.out⟩
    case round =>
      obtain ⟨k, Q, hk, rfl, hL, hok, hrow, hv, hbl⟩ := hrel
      have k0 : (0 : Int) ≤ (k : Int) := Int.natCast_nonneg _
      have HSC := Lib.hid (HSZ.out wr hbl)
      have HOK := Lib.hid hok
      have HL := Lib.hid hL
      have HRW := Lib.hid hrow
      have HV := Lib.hid hv
      have HBB := Lib.hid hbl
      clear hL hok hrow hv hbl
      by_cases hlt : k < R
      · have hkR : (k : Int) < (R : Int) := by omega
        by_cases hkN : N ≤ k
        · obtain ⟨j, hj⟩ : ∃ j, k = j + N := ⟨k - N, by omega⟩
          obtain ⟨q, t, hqt, ht⟩ : ∃ q t, j = 32 * q + t ∧ t < 32 := ⟨j / 32, j % 32, by omega, by omega⟩
          have hq : q < 512 := by have := HRL.out; have := HLN.out; omega
          obtain ⟨q', t', hk', ht'⟩ : ∃ q t, k = 32 * q + t ∧ t < 32 := ⟨k / 32, k % 32, by omega, by omega⟩
          obtain ⟨x, hx⟩ : ∃ x, (dg m)[q']? = some x := ⟨(dg m)[q']'(by have := HRL.out; omega), List.getElem?_eq_getElem _⟩
          have hxv := limb_val (ok_dg m) q'
          rw [hx, Option.getD_some, val_dg] at hxv
          have hbit := fun W (h : Below w.heap.size w W) => HBT.out W h q' t' x hx ht' (by have := HRL.out; have := HLN.out; omega)
          rw [hxv, bit_of_limb ht', ← hk'] at hbit
          obtain ⟨o, ho⟩ : ∃ o, Q[q]? = some o := ⟨Q[q]'(by have := HL.out; omega), List.getElem?_eq_getElem _⟩
          have hov := limb_val HOK.out q
          rw [ho, Option.getD_some] at hov
          have hol : o < 4294967296 := Lim.lt HOK.out ho
          have hot : o < 2 ^ t := by rw [hov]; exact limb_high (by rw [HV.out, ← hqt]; exact sr_lt hj) ht
          obtain ⟨b, hb⟩ : ∃ b, b = m / 2 ^ k % 2 := ⟨_, rfl⟩
          rw [← hb] at hbit
          have hstep := sr_step (m := m) hj
          rw [← hb] at hstep
          have hpw : LB ^ q * 2 ^ t = 2 ^ j := by rw [LBpow, ← Nat.pow_add, hqt]
          have HSTEP := Lib.hid hstep
          have HPW := Lib.hid hpw
          have HO := Lib.hid ho
          have HBIT := Lib.hid hbit
          have e0 : IntKind.i64.wrap ((k : Int) + n) = (j : Int) := by have := HNN.out; rw [IntWalk.i64_in _ (by omega)]; omega
          have e00 : (0 : Int) ≤ (k : Int) + n := by have := HNN.out; omega
          have e01 : (k : Int) + n = (j : Int) := by have := HNN.out; omega
          have j0 : (0 : Int) ≤ (j : Int) := Int.natCast_nonneg _
          have e1 : (j : Int).tdiv 32 = (q : Int) := by rw [Int.tdiv_eq_ediv_of_nonneg j0]; omega
          have e2 : (j : Int).tmod 32 = (t : Int) := by rw [Int.tmod_eq_emod_of_nonneg j0]; omega
          have q0 : (0 : Int) ≤ (q : Int) := Int.natCast_nonneg _
          have q1 : (q : Int) < 512 := by omega
          have t0 : (0 : Int) ≤ (t : Int) := Int.natCast_nonneg _
          have i1 : IntKind.i64.wrap (q : Int) = (q : Int) := IntWalk.i64_in _ (by omega)
          have i2 : IntKind.i64.wrap (t : Int) = (t : Int) := IntWalk.i64_in _ (by omega)
          have hb2 : b = 0 ∨ b = 1 := by omega
          have hpp : (2 : Int) ^ t % 4294967296 = ((2 ^ t : Nat) : Int) := by
            have h2 : 2 ^ t < 4294967296 := Nat.lt_of_le_of_lt (Nat.le_add_left _ _) (or_high ht hot).2
            rw [show (2 : Int) ^ t = ((2 ^ t : Nat) : Int) by rw [Int.natCast_pow]; rfl]
            generalize 2 ^ t = z at *
            omega
          have HPP := Lib.hid hpp
          have HOR := Lib.hid (or_high ht hot)
          have HOL := Lib.hid hol
          clear hpp hot
          have HJ := Lib.hid (show j ≤ 40000 by have := HRL.out; omega)
          have kb : k < 4294967296 := by omega
          clear hstep hpw ho hbit hb hxv hx hov hj hqt hk' ht'
          go_wp2_with fail
          refine HSC.out.mono ?_
          rintro e wq ⟨he, hd⟩
          subst he
          have hbq := HBB.out.trans (hd.below.mono HBB.out.size)
          have hrowq : Row wq g Q := HRW.out.up hd.below
          have HBQ := Lib.hid hbq
          have HRQ := Lib.hid hrowq
          clear hd hbq hrowq
          have c0 : wq.drew.cell? ⟨g, q, none⟩ = some (.int .u32 (o : Int)) := HRQ.out.cell HO.out
          have f0 : wq.drew.frozen? ⟨g, q, none⟩ = false := HRQ.out.frozen q
          have HBI := Lib.hid (HBIT.out wq.drew HBQ.out.drew)
          go_wp2_with fail
          have e3 : IntKind.i64.wrap (j : Int) = (j : Int) := IntWalk.i64_in _ (by have := HJ.out; omega)
          rcases hb2 with rfl | rfl
          · go_still_tail 22, (by kernel_rfl)
            still_call (HBI.out.mono fun e w' h => ⟨h.1, h.2.symm⟩)
            repeat still_step
            try refine wpStill_nil ?_
            change wpList _ _ _ _ _ wq.drew
            have hrow4 : Row wq.drew g Q := HRQ.out
            have H4 := Lib.hid (hrow4.set q o)
            have HB4 := Lib.hid (HBQ.out.drew)
            clear hrow4 HBI
            generalize wq.drew = w4 at *
            go_wp2_with fail
            rw [or_none HOL.out]
            have hv5 : val (Q.set q o) = m % 2 ^ (k + 1) / 2 ^ N := by
              have h1 := val_set o HO.out
              rw [HSTEP.out]
              have h2 := HV.out
              have h3 := HPW.out
              omega
            go_roundw
            case rel =>
              refine ⟨k + 1, Q.set q o, by omega, by go_num, by rw [List.length_set]; exact HL.out, okL_set HOK.out (by rw [LB_eq]; exact HOL.out), H4.out, hv5, HB4.out.setCell (p := ⟨g, q, none⟩) HG.out _⟩
            case measure => simp [intOf]; omega
          · go_still_tail 22, (by kernel_rfl)
            still_call (HBI.out.mono fun e w' h => ⟨h.1, h.2.symm⟩)
            repeat still_step
            try refine wpStill_nil ?_
            change wpList _ _ _ _ _ wq.drew
            have hrow4 : Row wq.drew g Q := HRQ.out
            have H4 := Lib.hid (hrow4.set q (o + 2 ^ t))
            have HB4 := Lib.hid (HBQ.out.drew)
            clear hrow4 HBI
            generalize wq.drew = w4 at *
            go_wp2_with fail
            rw [HPP.out, HOR.out.1]
            have hv5 : val (Q.set q (o + 2 ^ t)) = m % 2 ^ (k + 1) / 2 ^ N := by
              have h1 := val_set (o + 2 ^ t) HO.out
              rw [HSTEP.out]
              have h2 := HV.out
              have h3 := HPW.out
              rw [Nat.mul_add, h3, h2] at h1
              rw [Nat.mul_one]
              omega
            go_roundw
            case rel =>
              refine ⟨k + 1, Q.set q (o + 2 ^ t), by omega, by go_num, by rw [List.length_set]; exact HL.out, okL_set HOK.out (by rw [LB_eq]; exact HOR.out.2), H4.out, hv5, HB4.out.setCell (p := ⟨g, q, none⟩) HG.out _⟩
            case measure => simp [intOf]; omega
        · have e00 : ¬ (0 : Int) ≤ (k : Int) + n := by have := HNN.out; omega
          have eK : IntKind.i64.wrap ((k : Int) + n) = (k : Int) + n := IntWalk.i64_in _ (by have := HNN.out; have := HRL.out; have := HLN.out; omega)
          have kb : k < 4294967296 := by have := HRL.out; have := HLN.out; omega
          have hv0 : val Q = m % 2 ^ (k + 1) / 2 ^ N := by rw [sr_low (show k + 1 ≤ N by omega), HV.out, sr_low (show k ≤ N by omega)]
          have HV0 := Lib.hid hv0
          clear hv0
          go_wp2_with fail
          refine HSC.out.mono ?_
          rintro e wq ⟨he, hd⟩
          subst he
          have HBQ := Lib.hid (HBB.out.trans (hd.below.mono HBB.out.size))
          have HRQ := Lib.hid (HRW.out.up hd.below)
          clear hd
          go_wp2_with fail
          go_roundw
          case rel =>
            exact ⟨k + 1, Q, by omega, by go_num, HL.out, HOK.out, HRQ.out, HV0.out, HBQ.out⟩
          case measure => simp [intOf]; omega
      · have hkR : ¬ (k : Int) < (R : Int) := by omega
        obtain rfl : k = R := by omega
        go_wp2_with fail
        refine HSC.out.mono ?_
        rintro e wq ⟨he, hd⟩
        subst he
        have hlim := (HRW.out.up hd.below).whole HOK.out 512 (by rw [HL.out]; exact Nat.le_refl _)
        have htr := rtrim_any _ _ _ hlim (by rw [HL.out]; omega)
        rw [HV.out, Nat.mod_eq_of_lt HML.out, HL.out] at htr
        have HT := Lib.hid htr
        have HBQ := Lib.hid (HBB.out.trans (hd.below.mono HBB.out.size))
        clear hlim htr hd
        go_wp2_with fail
        refine HT.out.mono ?_
        rintro e w5 ⟨v, he, hnum, hb2, -⟩
        subst he
        go_wp2_with fail
        go_ret2
        exact ⟨_, rfl, hnum, HBQ.out.trans (hb2.mono HBQ.out.size)⟩
end Go.Proofs.YtlababdfdjjjaaaGreatDoor
namespace Go.Proofs.YtlababdfdjjjaaaGreatDoor
open Go.RowKit

/-! The reference's Shift, whole. -/
theorem bits_shift {m j : Nat} (h : m ≠ 0) : bitsOf (m * 2 ^ j) = bitsOf m + j := by
  have h1 := bits_le h
  have h2 := bits_lt m
  have h3 := bits_pos h
  obtain ⟨b, hb⟩ : ∃ b, bitsOf m = b + 1 := ⟨bitsOf m - 1, by omega⟩
  rw [hb] at h1 h2 ⊢
  rw [Nat.add_sub_cancel] at h1
  rw [show b + 1 + j = b + j + 1 by omega]
  refine bits_unique ?_ ?_
  · rw [Nat.pow_add]; exact Nat.mul_le_mul_right _ h1
  · rw [show b + j + 1 = b + 1 + j by omega, Nat.pow_add]; exact Nat.mul_lt_mul_of_pos_right h2 (Nat.two_pow_pos j)
theorem shift_fits {m j : Nat} (h : m ≠ 0) (L : Nat) : bitsOf m + j ≤ 32 * L ↔ (dg (m * 2 ^ j)).length ≤ L := by
  rw [dg_le, LBpow, ← bits_shift h, bits_le_iff]
def rshiftW (l : List Nat) (n : Int) : Nat × Int := if examW [l] = 0 then (if n < -20000 ∨ 20000 < n then (0, 2) else if n < 0 then (val l / 2 ^ (-n).toNat, 0) else fitW (val l * 2 ^ n.toNat)) else (0, examW [l])
set_option maxRecDepth 100000 in
set_option maxHeartbeats 2000000 in
theorem rShift_bad (va : Value) (la : List Nat) (n : Int) (w : World) (ha : Arg w va la) (h0 : examW [la] ≠ 0) :
    Calls Tryz.prog 33 #[va, .int .i64 n] w (Res w (0, examW [la])) := by
  have hex := rexam1 va la w ha
  obtain ⟨A, capa, rfl, -⟩ := ha.1.form
  obtain ⟨ec, hec⟩ : ∃ ec, ec = examW [la] := ⟨_, rfl⟩
  rw [← hec] at hex h0 ⊢
  have q1 : (ec == 0) = false := by simp [h0]
  have q2 : (ec != 0) = true := by simp [h0]
  have HEX := Lib.hid hex
  clear hex ha h0 hec
  generalize la.length = l1 at *
  go_enter Tryz.func33, Tryz.ntmps33
  go_wp2_with fail
  refine HEX.out.mono ?_
  rintro e w2 ⟨he, hb2⟩
  subst he
  go_wp2_with fail
  go_ret2
  exact ⟨_, rfl, Num.zero _ _, hb2⟩

set_option maxRecDepth 100000 in
set_option maxHeartbeats 2000000 in
theorem rShift_arg (va : Value) (la : List Nat) (n : Int) (w : World) (ha : Arg w va la) (h0 : examW [la] = 0) (hn : n < -20000 ∨ 20000 < n) :
    Calls Tryz.prog 33 #[va, .int .i64 n] w (Res w (0, 2)) := by
  have hex := rexam1 va la w ha
  rw [h0] at hex
  obtain ⟨A, capa, rfl, -⟩ := ha.1.form
  have HEX := Lib.hid hex
  clear hex ha h0
  generalize la.length = l1 at *
  by_cases h1 : n < -20000
  · clear hn
    go_enter Tryz.func33, Tryz.ntmps33
    go_wp2_with fail
    refine HEX.out.mono ?_
    rintro e w2 ⟨he, hb2⟩
    subst he
    go_wp2_with fail
    go_ret2
    exact ⟨_, rfl, Num.zero _ _, hb2⟩
  · have h2 : 20000 < n := by omega
    clear hn
    go_enter Tryz.func33, Tryz.ntmps33
    go_wp2_with fail
    refine HEX.out.mono ?_
    rintro e w2 ⟨he, hb2⟩
    subst he
    go_wp2_with fail
    go_ret2
    exact ⟨_, rfl, Num.zero _ _, hb2⟩

set_option maxRecDepth 100000 in
set_option maxHeartbeats 2000000 in
theorem rShift_long (va : Value) (la : List Nat) (n : Int) (w : World) (ha : Arg w va la) (h0 : examW [la] = 0) (hn : -20000 ≤ n) (hn2 : n ≤ 20000) (hl : 0 < la.length) (hbig : 16384 < (bitsOf (val la) : Int) + n) :
    Calls Tryz.prog 33 #[va, .int .i64 n] w (Res w (0, 3)) := by
  have hex := rexam1 va la w ha
  rw [h0] at hex
  obtain ⟨hnum, hlen, hdg⟩ := ha.num h0 (by simp)
  have hR : bitsOf (val la) ≤ 32 * (dg (val la)).length := by rw [bits_le_iff, ← LBpow]; exact lt_dg _
  have hsz := fun W (h : Below w.heap.size w W) => rsize_any va (val la) w.heap.size W (Num.below hnum h) (by omega)
  obtain ⟨A, capa, rfl, -⟩ := ha.1.form
  generalize bitsOf (val la) = R at *
  have eS : IntKind.i64.wrap ((R : Int) + n) = (R : Int) + n := IntWalk.i64_in _ (by omega)
  have hl0 : (0 : Int) < (la.length : Int) := by omega
  have HEX := Lib.hid hex
  have HSZ := Lib.hid hsz
  clear hex ha h0 hsz hR hlen hdg hnum hl
  generalize la.length = l1 at *
  go_enter Tryz.func33, Tryz.ntmps33
  go_wp2_with fail
  refine HEX.out.mono ?_
  rintro e w1 ⟨he, hb1⟩
  subst he
  have HB1 := Lib.hid hb1
  have HS1 := Lib.hid (HSZ.out w1 hb1)
  clear hb1
  go_wp2_with fail
  refine HS1.out.mono ?_
  rintro e w2 ⟨he, hd⟩
  subst he
  have HB2 := Lib.hid (HB1.out.trans (hd.below.mono HB1.out.size))
  clear hd HS1 HB1
  go_wp2_with fail
  go_ret2
  exact ⟨_, rfl, Num.zero _ _, HB2.out⟩

def SzRel (w : World) (g : Nat) (iv : Value) (wr : World) : Prop := iv = .int .i64 0 ∧ Row wr g (List.replicate 512 0) ∧ Below w.heap.size w wr
set_option maxRecDepth 100000 in
set_option maxHeartbeats 2000000 in
theorem rShift_zero (va : Value) (n : Int) (w : World) (ha : Arg w va []) (hn : -20000 ≤ n) (hn2 : n ≤ 20000) :
    Calls Tryz.prog 33 #[va, .int .i64 n] w (Res w (0, 0)) := by
  have h0 : examW [[]] = 0 := by decide
  have hex := rexam1 va [] w ha
  rw [h0] at hex
  obtain ⟨hnum, -, -⟩ := ha.num h0 (by simp)
  rw [show val [] = 0 from rfl] at hnum
  have hsz := fun W (h : Below w.heap.size w W) => rsize_any va 0 w.heap.size W (Num.below hnum h) (by rw [dg_zero]; exact Nat.zero_le _)
  rw [bits_zero] at hsz
  obtain ⟨A, capa, rfl, -⟩ := ha.1.form
  have hmk := fun W => mkI 512 512 rfl (by omega) W
  have HEX := Lib.hid hex
  have HSZ := Lib.hid hsz
  clear hex ha h0 hsz hnum
  go_enter Tryz.func33, Tryz.ntmps33
  go_wp2_with fail
  refine HEX.out.mono ?_
  rintro e w1 ⟨he, hb1⟩
  subst he
  have HB1 := Lib.hid hb1
  clear hb1
  have HROW := Lib.hid (Row.new w1 512)
  have HB3 := Lib.hid (HB1.out.trans ((below_al w1 (.cells (zeros 512).toArray 64)).mono HB1.out.size))
  obtain ⟨g, hg⟩ : ∃ g, g = w1.heap.size := ⟨_, rfl⟩
  go_wp2_with fail
  rw [← hg]
  rw [← hg] at HROW
  clear hmk
  generalize w1.alloc _ = W3 at *
  clear hg HB1
  go_wp2_with fail
  go_loopw [8] (fun iv wr => SzRel w g iv wr) (fun i _ => 0)
  case atStart => exact ⟨rfl, HROW.out, HB3.out⟩
  case round =>
    obtain ⟨rfl, hrow, hbl⟩ := hrel
    have HSC := Lib.hid (HSZ.out wr hbl)
    have HRW := Lib.hid hrow
    have HBB := Lib.hid hbl
    clear hrow hbl
    go_wp2_with fail
    refine HSC.out.mono ?_
    rintro e wq ⟨he, hd⟩
    subst he
    have hlim := (HRW.out.up hd.below).whole (okL_zero _) 512 (by rw [List.length_replicate]; exact Nat.le_refl _)
    have htr := rtrim_any _ _ _ hlim (by rw [List.length_replicate]; omega)
    rw [val_zero, List.length_replicate] at htr
    have HT := Lib.hid htr
    have HBQ := Lib.hid (HBB.out.trans (hd.below.mono HBB.out.size))
    clear hlim htr hd
    go_wp2_with fail
    refine HT.out.mono ?_
    rintro e w5 ⟨v, he, hnum, hb2, -⟩
    subst he
    go_wp2_with fail
    go_ret2
    exact ⟨_, rfl, hnum, HBQ.out.trans (hb2.mono HBQ.out.size)⟩

theorem rShift_any (va : Value) (la : List Nat) (n : Int) (w : World) (ha : Arg w va la) :
    Calls Tryz.prog 33 #[va, .int .i64 n] w (Res w (rshiftW la n)) := by
  unfold rshiftW
  by_cases h0 : examW [la] = 0
  · rw [if_pos h0]
    by_cases hr : n < -20000 ∨ 20000 < n
    · rw [if_pos hr]
      exact rShift_arg va la n w ha h0 hr
    · rw [if_neg hr]
      obtain ⟨hnum, hlen, hdg⟩ := ha.num h0 (by simp)
      by_cases hn : n < 0
      · rw [if_pos hn]
        exact rShift_right va la (-n).toNat n w ha h0 (by omega) (by omega)
      · rw [if_neg hn]
        obtain ⟨j, rfl⟩ := Int.eq_ofNat_of_zero_le (show 0 ≤ n by omega)
        rw [Int.toNat_natCast]
        by_cases hz : la = []
        · subst hz
          have hv : fitW (val [] * 2 ^ j) = (0, 0) := by
            rw [show val [] = 0 from rfl, Nat.zero_mul]
            unfold fitW
            rw [dg_zero]
            rfl
          rw [hv]
          exact rShift_zero va (j : Int) w ha (by omega) (by omega)
        · have hlp : 0 < la.length := List.length_pos_iff.2 hz
          have hm0 : val la ≠ 0 := by
            intro h
            rw [h, dg_zero] at hdg
            exact hz hdg.symm
          have hfitiff : bitsOf (val la) + j ≤ 16384 ↔ (dg (val la * 2 ^ j)).length ≤ 512 := shift_fits hm0 512
          by_cases hf : bitsOf (val la) + j ≤ 16384
          · have hfw : fitW (val la * 2 ^ j) = (val la * 2 ^ j, 0) := by
              have := hfitiff.1 hf
              unfold fitW
              rw [if_neg (by omega), if_neg (by omega)]
            rw [hfw]
            exact rShift_left va la j w ha h0 (by omega) hf
          · have hfw : fitW (val la * 2 ^ j) = (0, 3) := by
              have : ¬ _ := fun h => hf (hfitiff.2 h)
              unfold fitW
              rw [if_pos (by omega), if_pos (by omega)]
            rw [hfw]
            exact rShift_long va la (j : Int) w ha h0 (by omega) (by omega) hlp (by omega)
  · rw [if_neg h0]
    exact rShift_bad va la n w ha h0
end Go.Proofs.YtlababdfdjjjaaaGreatDoor
namespace Go.Proofs.YtlababdfdjjjaaaGreatDoor
open Go.RowKit

/-! The reference's Root: its errors. -/
set_option maxRecDepth 100000 in
set_option maxHeartbeats 2000000 in
theorem rRoot_bad (va : Value) (la : List Nat) (n : Int) (w : World) (ha : Arg w va la) (h0 : examW [la] ≠ 0) :
    Calls Tryz.prog 47 #[va, .int .i64 n] w (Res w (0, examW [la])) := by
  have hex := rexam1 va la w ha
  obtain ⟨A, capa, rfl, -⟩ := ha.1.form
  obtain ⟨ec, hec⟩ : ∃ ec, ec = examW [la] := ⟨_, rfl⟩
  rw [← hec] at hex h0 ⊢
  have q1 : (ec == 0) = false := by simp [h0]
  have q2 : (ec != 0) = true := by simp [h0]
  have HEX := Lib.hid hex
  clear hex ha h0 hec
  generalize la.length = l1 at *
  go_enter Tryz.func47, Tryz.ntmps47
  go_wp2_with fail
  refine HEX.out.mono ?_
  rintro e w2 ⟨he, hb2⟩
  subst he
  go_wp2_with fail
  go_ret2
  exact ⟨_, rfl, Num.zero _ _, hb2⟩

set_option maxRecDepth 100000 in
set_option maxHeartbeats 2000000 in
theorem rRoot_arg (va : Value) (la : List Nat) (n : Int) (w : World) (ha : Arg w va la) (h0 : examW [la] = 0) (hn : n < 1 ∨ 64 < n) :
    Calls Tryz.prog 47 #[va, .int .i64 n] w (Res w (0, 2)) := by
  have hex := rexam1 va la w ha
  rw [h0] at hex
  obtain ⟨A, capa, rfl, -⟩ := ha.1.form
  have HEX := Lib.hid hex
  clear hex ha h0
  generalize la.length = l1 at *
  by_cases h1 : n < 1
  · clear hn
    go_enter Tryz.func47, Tryz.ntmps47
    go_wp2_with fail
    refine HEX.out.mono ?_
    rintro e w2 ⟨he, hb2⟩
    subst he
    go_wp2_with fail
    go_ret2
    exact ⟨_, rfl, Num.zero _ _, hb2⟩
  · have h2 : 64 < n := by omega
    clear hn
    go_enter Tryz.func47, Tryz.ntmps47
    go_wp2_with fail
    refine HEX.out.mono ?_
    rintro e w2 ⟨he, hb2⟩
    subst he
    go_wp2_with fail
    go_ret2
    exact ⟨_, rfl, Num.zero _ _, hb2⟩

end Go.Proofs.YtlababdfdjjjaaaGreatDoor
namespace Go.Proofs.YtlababdfdjjjaaaGreatDoor
open Go.RowKit

/-! One round of the reference's Root, on numbers. -/
theorem root_under {r k m : Nat} (hk : 1 ≤ k) (h : r ^ k ≤ m) : r ≤ m := by
  rcases Nat.eq_zero_or_pos r with e | e
  · omega
  · have : r ^ 1 ≤ r ^ k := Nat.pow_le_pow_right e hk
    rw [Nat.pow_one] at this; omega
theorem two_fits {j M : Nat} : (dg (2 ^ j)).length ≤ M ↔ j < 32 * M := by
  rw [dg_le, LBpow]
  exact Nat.pow_lt_pow_iff_right (by omega)
theorem len_pow2 {t S M : Nat} (h : t < 2 ^ S) (hS : S ≤ 32 * M) : (dg t).length ≤ M := by
  rw [dg_le, LBpow]
  exact Nat.lt_of_lt_of_le h (Nat.pow_le_pow_right (by omega) hS)
theorem dvd_room {j S r : Nat} (hj : j + 1 ≤ S) (hd : 2 ^ (j + 1) ∣ r) (hr : r < 2 ^ S) : r + 2 ^ j < 2 ^ S := by
  obtain ⟨c, rfl⟩ := hd
  have e : 2 ^ S = 2 ^ (j + 1) * 2 ^ (S - (j + 1)) := by rw [← Nat.pow_add]; congr 1; omega
  rw [e] at hr ⊢
  have h1 : c < 2 ^ (S - (j + 1)) := Nat.lt_of_mul_lt_mul_left hr
  have h2 : 2 ^ (j + 1) * (c + 1) ≤ 2 ^ (j + 1) * 2 ^ (S - (j + 1)) := Nat.mul_le_mul_left _ h1
  rw [Nat.mul_add, Nat.mul_one] at h2
  have h3 : 2 ^ (j + 1) = 2 ^ j + 2 ^ j := by rw [Nat.pow_succ]; omega
  have h4 := Nat.two_pow_pos j
  omega
theorem root_round (M : Nat) {m r S k j : Nat} (hk : 1 ≤ k) (hS : m < 2 ^ S) (hS2 : S ≤ 32 * M) (hj : j ≤ S) (hd : 2 ^ (j + 1) ∣ r) (h1 : r ^ k ≤ m) (h2 : m < (r + 2 ^ (j + 1)) ^ k) :
    ∃ s, s = (if (dg (2 ^ j)).length ≤ M then 2 ^ j else 0) ∧ (dg (r + s)).length ≤ M ∧ (dg s).length ≤ M ∧ (dg r).length ≤ M ∧ 2 ^ j ∣ r ∧ 2 ^ j ∣ (r + s) ∧ m < (r + s + 2 ^ j) ^ k ∧ (¬ (r + s) ^ k ≤ m → m < (r + 2 ^ j) ^ k) := by
  have hrm := root_under hk h1
  have hrS : r < 2 ^ S := Nat.lt_of_le_of_lt hrm hS
  have h3 : 2 ^ (j + 1) = 2 ^ j + 2 ^ j := by rw [Nat.pow_succ]; omega
  have hdj : 2 ^ j ∣ r := Nat.dvd_trans ⟨2, by rw [Nat.pow_succ]⟩ hd
  have hlr : (dg r).length ≤ M := len_pow2 hrS hS2
  by_cases hf : (dg (2 ^ j)).length ≤ M
  · refine ⟨2 ^ j, by rw [if_pos hf], ?_, hf, hlr, hdj, Nat.dvd_add hdj (Nat.dvd_refl _), by rw [Nat.add_assoc, ← h3]; exact h2, fun h => Nat.lt_of_not_le h⟩
    by_cases hjS : j + 1 ≤ S
    · exact len_pow2 (dvd_room hjS hd hrS) hS2
    · have hjS : j = S := by omega
      subst hjS
      have hr0 : r = 0 := by
        obtain ⟨c, rfl⟩ := hd
        rcases Nat.eq_zero_or_pos c with h | h
        · rw [h, Nat.mul_zero]
        · have := Nat.mul_le_mul_left (2 ^ (j + 1)) h
          have := Nat.two_pow_pos j
          omega
      rw [hr0, Nat.zero_add]
      exact hf
  · rw [if_neg hf]
    have hjM : ¬ j < 32 * M := fun h => hf (two_fits.2 h)
    have hjS : j = S := by omega
    subst hjS
    have hr0 : r = 0 := by
      obtain ⟨c, rfl⟩ := hd
      rcases Nat.eq_zero_or_pos c with h | h
      · rw [h, Nat.mul_zero]
      · have := Nat.mul_le_mul_left (2 ^ (j + 1)) h
        have := Nat.two_pow_pos j
        omega
    subst hr0
    refine ⟨0, rfl, hlr, by rw [dg_zero]; exact Nat.zero_le _, hlr, hdj, hdj, ?_, ?_⟩
    · rw [Nat.zero_add]
      refine Nat.lt_of_lt_of_le hS ?_
      have : (2 ^ j) ^ 1 ≤ (2 ^ j) ^ k := Nat.pow_le_pow_right (Nat.two_pow_pos j) hk
      rw [Nat.pow_one] at this
      exact this
    · intro h
      exact absurd h1 h
end Go.Proofs.YtlababdfdjjjaaaGreatDoor
namespace Go.Proofs.YtlababdfdjjjaaaGreatDoor
open Go.RowKit

/-! The reference's Root, where its arguments are good. -/
theorem root_open {m S k : Nat} (hk : 1 ≤ k) (h : m < 2 ^ S) : m < (0 + 2 ^ (S / k + 1)) ^ k := by
  rw [Nat.zero_add, ← Nat.pow_mul]
  refine Nat.lt_of_lt_of_le h (Nat.pow_le_pow_right (by omega) ?_)
  have h1 := Nat.lt_mul_div_succ S (show 0 < k by omega)
  rw [Nat.mul_comm] at h1
  omega
def RgRel (w : World) (m k q : Nat) (vv iv : Value) (wr : World) : Prop :=
  ∃ (i r : Nat) (A : Option Addr) (n c : Nat), i ≤ q + 1 ∧ ((i = 0 ∧ iv = .int .i64 (-1)) ∨ ∃ j : Nat, i = j + 1 ∧ iv = .int .i64 (j : Int)) ∧ vv = .slice A n c ∧ Num wr wr.heap.size (.slice A n c) r ∧ r ^ k ≤ m ∧ m < (r + 2 ^ i) ^ k ∧ 2 ^ i ∣ r ∧ Below w.heap.size w wr
theorem shift_unit (v : Value) (j : Nat) (W : World) (hv : Num W W.heap.size v 1) (hj : j ≤ 20000) :
    Calls Tryz.prog 33 #[v, .int .i64 (j : Int)] W fun e w' => ∃ A n c ec, e = .returned (.tuple #[.slice A n c, .int .i64 ec]) ∧ Num w' w'.heap.size (.slice A n c) (if (dg (2 ^ j)).length ≤ 512 then 2 ^ j else 0) ∧ Below W.heap.size W w' := by
  have he : examW [dg 1] = 0 := by decide +kernel
  have hw : (rshiftW (dg 1) (j : Int)).1 = if (dg (2 ^ j)).length ≤ 512 then 2 ^ j else 0 := by
    unfold rshiftW fitW
    rw [if_pos he, if_neg (by omega), if_neg (by omega), Int.toNat_natCast, val_dg, Nat.one_mul]
    simp only
    by_cases h : (dg (2 ^ j)).length ≤ 512
    · rw [if_pos h, if_neg (by omega)]
    · rw [if_neg h, if_pos (by omega)]
  refine (rShift_any v (dg 1) (j : Int) W ⟨hv, by rw [len_one]; omega⟩).mono ?_
  rintro e w' ⟨u, he, hn, hb'⟩
  rw [hw] at hn
  obtain ⟨A, c, rfl, -⟩ := hn.form
  exact ⟨A, _, c, _, he, hn, hb'⟩
theorem plus_shapes {u v : Value} {m n : Nat} {W : World} (ha : Num W W.heap.size u m) (hb : Num W W.heap.size v n) (h1 : (dg m).length ≤ 1000000) (h2 : (dg n).length ≤ 1000000) :
    Calls Tryz.prog 86 #[u, v] W fun e w' => ∃ A n1 c, e = .returned (.slice A n1 c) ∧ Num w' w'.heap.size (.slice A n1 c) (m + n) ∧ Below W.heap.size W w' :=
  (rplus_num ha hb h1 h2).mono fun e w' h => by
    obtain ⟨v, he, hn, hb⟩ := h
    obtain ⟨A, c, rfl, -⟩ := hn.form
    exact ⟨A, _, c, he, hn, hb⟩

set_option maxRecDepth 100000 in
set_option maxHeartbeats 4000000 in
theorem rRoot_good (va : Value) (la : List Nat) (k : Nat) (w : World) (ha : Arg w va la) (hex0 : examW [la] = 0) (hk : 1 ≤ k) (hk2 : k ≤ 64) :
    Calls Tryz.prog 47 #[va, .int .i64 (k : Int)] w fun e w' => ∃ (A : Option Addr) (n c r : Nat), e = .returned (.tuple #[.slice A n c, .int .i64 0]) ∧ Num w' w'.heap.size (.slice A n c) r ∧ r ^ k ≤ val la ∧ val la < (r + 1) ^ k ∧ Below w.heap.size w w' := by
  have hex := rexam1 va la w ha
  rw [hex0] at hex
  obtain ⟨hnum, hlen, hdg⟩ := ha.num hex0 (by simp)
  obtain ⟨A, capa, rfl, -⟩ := ha.1.form
  obtain ⟨m, hm⟩ : ∃ m, m = val la := ⟨_, rfl⟩
  rw [← hm] at hnum hlen hdg ⊢
  generalize la.length = l1 at *
  have HNM := Lib.hid (fun W (h : Below w.heap.size w W) => Num.up hnum h)
  obtain ⟨S, hS⟩ : ∃ S, S = bitsOf m := ⟨_, rfl⟩
  have hS63 : S ≤ 32 * 512 := by
    have h1 : bitsOf m ≤ 32 * (dg m).length := by rw [bits_le_iff, ← LBpow]; exact lt_dg m
    rw [hS]
    omega
  have hmS : m < 2 ^ S := by rw [hS]; exact bits_lt m
  have hsz := fun W (h : Below w.heap.size w W) => rsize_any (.slice A l1 capa) m W.heap.size W (HNM.out W h) (by omega)
  rw [← hS] at hsz
  have hord := fun W v n (h : Below w.heap.size w W) (hv : Num W W.heap.size v n) (hn : (dg n).length ≤ 1000000) => rorder_num hv (HNM.out W h) hn (by omega)
  have hbeg := root_open hk hmS
  obtain ⟨q, hq⟩ : ∃ q, q = S / k := ⟨_, rfl⟩
  rw [← hq] at hbeg
  have hq63 : q ≤ S := by rw [hq]; exact Nat.div_le_self _ _
  have k1 : (1 : Int) ≤ (k : Int) := by omega
  have k2 : (k : Int) ≤ 64 := by omega
  have k4 : (k : Int) ≠ 0 := by omega
  have k5 : ((k : Int) == 0) = false := by simpa using k4
  have e1 : (S : Int).tdiv (k : Int) = (q : Int) := by
    rw [Int.tdiv_eq_ediv_of_nonneg (Int.natCast_nonneg _), hq]
    exact (Int.natCast_ediv S k).symm
  have q0 : (0 : Int) ≤ (q : Int) := Int.natCast_nonneg _
  have i1 : IntKind.i64.wrap (q : Int) = (q : Int) := IntWalk.i64_in _ (by omega)
  have HEX := Lib.hid hex
  have HSZ := Lib.hid hsz
  have HORD := Lib.hid hord
  have HBEG := Lib.hid hbeg
  have HMS := Lib.hid hmS
  have HS63 := Lib.hid hS63
  have HQ63 := Lib.hid hq63
  have HK := Lib.hid hk
  have HK2 := Lib.hid hk2
  have HLN := Lib.hid hlen
  clear hex hsz hord hbeg hS63 hq63 hlen hq hS hmS hdg hm hnum ha hex0
  go_enter Tryz.func47, Tryz.ntmps47
  go_wp2_with fail
  refine HEX.out.mono ?_
  rintro e w1 ⟨he, hb1⟩
  subst he
  have HB1 := Lib.hid hb1
  have HS1 := Lib.hid (HSZ.out w1 hb1)
  clear hb1
  go_wp2_with fail
  refine HS1.out.mono ?_
  rintro e w2 ⟨he, hd⟩
  subst he
  have HB2 := Lib.hid (HB1.out.trans (hd.below.mono HB1.out.size))
  clear hd HS1 HB1
  go_wp2_with fail
  go_loopw [7, 8] (fun vv iv wr => RgRel w m k q vv iv wr) (fun _ i _ => (intOf i + 1).toNat)
  case atStart =>
    exact ⟨q + 1, 0, none, 0, 0, Nat.le_refl _, .inr ⟨q, rfl, rfl⟩, rfl, Num.zero _ _, by rw [Nat.zero_pow (by have := HK.out; omega)]; exact Nat.zero_le _, HBEG.out, Nat.dvd_zero _, HB2.out⟩
  case round =>
    obtain ⟨i, r, A1, n1, c1, hi, hcase, rfl, hnum, hr1, hr2, hdv, hbl⟩ := hrel
    rcases hcase with ⟨rfl, rfl⟩ | ⟨j, rfl, rfl⟩
    · rw [Nat.pow_zero] at hr2
      have HN := Lib.hid hnum
      have HR1 := Lib.hid hr1
      have HR2 := Lib.hid hr2
      have HBL := Lib.hid hbl
      clear hnum hr1 hr2 hbl hi hdv
      go_wp2_with fail
      go_ret2
      exact ⟨_, _, _, r, rfl, HN.out, HR1.out, HR2.out, HBL.out⟩
    · have j0 : (0 : Int) ≤ (j : Int) := Int.natCast_nonneg _
      have hj : j ≤ S := by have := HQ63.out; omega
      have hjb : j ≤ 20000 := by have := HS63.out; omega
      have jb : j < 4294967296 := by omega
      obtain ⟨s, hs, hlt, hlj, hlr, hdj, hdt, hnext, hno⟩ := root_round 512 HK.out HMS.out HS63.out hj hdv hr1 hr2
      have hiq : j ≤ q + 1 := by omega
      have HN := Lib.hid hnum
      have HR1 := Lib.hid hr1
      have HNX := Lib.hid hnext
      have HBL := Lib.hid hbl
      have HLR := Lib.hid hlr
      have HLJ := Lib.hid hlj
      have HLT := Lib.hid hlt
      have HDJ := Lib.hid hdj
      have HDT := Lib.hid hdt
      have HNO := Lib.hid hno
      have HS := Lib.hid hs
      have HIQ := Lib.hid hiq
      have HJ := Lib.hid hjb
      have HONE := Lib.hid (of_one_forms wr)
      clear hnum hr1 hr2 hbl hi hlr hlj hlt hnext hj hjb hs hdj hdt hno hdv hiq
      go_wp2_with fail
      refine HONE.out.mono ?_
      rintro e w3 ⟨A3, n3, c3, he, hn3, hb3⟩
      subst he
      have HSH := Lib.hid (shift_unit _ j w3 hn3 HJ.out)
      have HN3 := Lib.hid (HN.out.up hb3)
      have HB3 := Lib.hid (HBL.out.trans (hb3.mono HBL.out.size))
      clear hn3 hb3 HN HBL HONE
      go_wp2_with fail
      refine HSH.out.mono ?_
      rintro e w4 ⟨A4, n4, c4, ec, he, hn4, hb4⟩
      subst he
      rw [← HS.out] at hn4
      have HN4 := Lib.hid (HN3.out.up hb4)
      have HPL := Lib.hid (plus_shapes HN4.out hn4 (by have := HLR.out; omega) (by have := HLJ.out; omega))
      have HB4 := Lib.hid (HB3.out.trans (hb4.mono HB3.out.size))
      clear hn4 hb4 HN3 HB3 HSH
      go_wp2_with fail
      refine HPL.out.mono ?_
      rintro e w5 ⟨A5, n5, c5, he, hn5, hb5⟩
      subst he
      have HPW := Lib.hid (rpower_any _ _ k _ hn5 HLT.out (by have := HK2.out; omega))
      have HN5 := Lib.hid (HN4.out.up hb5)
      have HT5 := Lib.hid hn5
      have HB5 := Lib.hid (HB4.out.trans (hb5.mono HB4.out.size))
      clear hn5 hb5 HN4 HB4 HPL
      go_wp2_with fail
      refine HPW.out.mono ?_
      rintro e w6 ⟨A6, n6, c6, he, hn6, hb6⟩
      subst he
      have HN6 := Lib.hid (HN5.out.up hb6)
      have HT6 := Lib.hid (HT5.out.up hb6)
      have HB6 := Lib.hid (HB5.out.trans (hb6.mono HB5.out.size))
      by_cases hft : (dg ((r + s) ^ k)).length ≤ 512
      · rw [if_pos hft] at hn6
        have hd6 : decide ((dg ((r + s) ^ k)).length ≤ 512) = true := decide_eq_true hft
        rw [hd6]
        have hor := HORD.out w6 _ _ HB6.out hn6 (by omega)
        clear hn6 hb6 HN5 HT5 HB5 HPW hft hd6
        by_cases hle : (r + s) ^ k ≤ m
        · obtain ⟨c, hc, hc0⟩ : ∃ c, cmpI ((r + s) ^ k) m = c ∧ c ≤ 0 := ⟨_, rfl, by unfold cmpI; (repeat' split) <;> omega⟩
          rw [hc] at hor
          have HOR := Lib.hid hor
          have HLE := Lib.hid hle
          clear hor hle hc
          go_wp2_with fail
          refine HOR.out.mono ?_
          rintro e w7 ⟨he, hw⟩
          subst he
          subst hw
          go_wp2_with fail
          go_roundw
          case rel =>
            refine ⟨j, r + s, A5, n5, c5, HIQ.out, ?_, rfl, HT6.out, HLE.out, HNX.out, HDT.out, HB6.out⟩
            rcases Nat.eq_zero_or_pos j with h | h
            · left; exact ⟨h, by rw [h]; rfl⟩
            · right; exact ⟨j - 1, by omega, by congr 1; omega⟩
          case measure => simp [intOf]; try omega
        · obtain ⟨c, hc, hc0⟩ : ∃ c, cmpI ((r + s) ^ k) m = c ∧ ¬ c ≤ 0 := ⟨_, rfl, by unfold cmpI; (repeat' split) <;> omega⟩
          rw [hc] at hor
          have HOR := Lib.hid hor
          have HLE := Lib.hid hle
          clear hor hle hc
          go_wp2_with fail
          refine HOR.out.mono ?_
          rintro e w7 ⟨he, hw⟩
          subst he
          subst hw
          go_wp2_with fail
          go_roundw
          case rel =>
            refine ⟨j, r, A1, n1, c1, HIQ.out, ?_, rfl, HN6.out, HR1.out, HNO.out HLE.out, HDJ.out, HB6.out⟩
            rcases Nat.eq_zero_or_pos j with h | h
            · left; exact ⟨h, by rw [h]; rfl⟩
            · right; exact ⟨j - 1, by omega, by congr 1; omega⟩
          case measure => simp [intOf]; try omega
      · have hd6 : decide ((dg ((r + s) ^ k)).length ≤ 512) = false := decide_eq_false hft
        rw [hd6]
        have hle : ¬ (r + s) ^ k ≤ m := fun h => hft (Nat.le_trans (dg_mono h) HLN.out)
        have HLE := Lib.hid hle
        clear hn6 hb6 HN5 HT5 HB5 HPW hft hd6 hle
        go_wp2_with fail
        go_roundw
        case rel =>
          refine ⟨j, r, A1, n1, c1, HIQ.out, ?_, rfl, HN6.out, HR1.out, HNO.out HLE.out, HDJ.out, HB6.out⟩
          rcases Nat.eq_zero_or_pos j with h | h
          · left; exact ⟨h, by rw [h]; rfl⟩
          · right; exact ⟨j - 1, by omega, by congr 1; omega⟩
        case measure => simp [intOf]; try omega
end Go.Proofs.YtlababdfdjjjaaaGreatDoor
