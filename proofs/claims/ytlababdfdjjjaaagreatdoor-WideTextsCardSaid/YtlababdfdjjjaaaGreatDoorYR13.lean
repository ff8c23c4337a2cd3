import Derived.Test.YtlababdfdjjjaaaGreatDoorYRF
namespace Go.Proofs.YtlababdfdjjjaaaGreatDoor
open Go.RowKit

/-! The reference's Shift to the left, where it fits. -/
theorem or_high {o t : Nat} (ht : t < 32) (ho : o < 2 ^ t) : bits .or .u32 (o : Int) ((2 ^ t : Nat) : Int) = ((o + 2 ^ t : Nat) : Int) ∧ o + 2 ^ t < 4294967296 := by
  have h1 : 2 ^ t ≤ 2 ^ 31 := Nat.pow_le_pow_right (by omega) (by omega)
  have h31 : (2 : Nat) ^ 31 = 2147483648 := rfl
  refine ⟨?_, by omega⟩
  rw [u32_or_nat _ _ (by omega) (by omega)]
  congr 1
  have h := Nat.two_pow_add_eq_or_of_lt (i := t) (a := 1) ho
  rw [Nat.mul_one] at h
  rw [Nat.or_comm, ← h, Nat.add_comm]
theorem or_none {o : Nat} (ho : o < 4294967296) : bits .or .u32 (o : Int) 0 = (o : Int) := by
  have h := u32_or_nat o 0 ho (by omega)
  rw [Nat.or_zero] at h
  exact h
theorem sh_step {m n k j : Nat} (hj : j = k + n) : m % 2 ^ (k + 1) * 2 ^ n = m % 2 ^ k * 2 ^ n + 2 ^ j * (m / 2 ^ k % 2) := by
  rw [Nat.mod_pow_succ, Nat.add_mul, hj, Nat.pow_add]
  congr 1
  ac_rfl
theorem sh_lt {m n k j : Nat} (hj : j = k + n) : m % 2 ^ k * 2 ^ n < 2 ^ j := by
  rw [hj, Nat.pow_add]
  exact Nat.mul_lt_mul_of_pos_right (Nat.mod_lt _ (Nat.two_pow_pos k)) (Nat.two_pow_pos n)
theorem limb_high {V q t : Nat} (h : V < 2 ^ (32 * q + t)) (_ht : t < 32) : V / LB ^ q % LB < 2 ^ t := by
  have h1 : V / LB ^ q < 2 ^ t := by
    rw [Nat.div_lt_iff_lt_mul (pow_pos' _), LBpow, ← Nat.pow_add, Nat.add_comm]
    exact h
  exact Nat.lt_of_le_of_lt (Nat.mod_le _ _) h1
theorem below_al (w : World) (o : Obj) : Below w.heap.size w (w.alloc o) := (Below.refl _ _).alloc (Nat.le_refl _) o
def ShRel (w : World) (m n R g : Nat) (iv : Value) (wr : World) : Prop :=
  ∃ (k : Nat) (Q : List Nat), k ≤ R ∧ iv = .int .i64 (k : Int) ∧ Q.length = 512 ∧ okL Q ∧ Row wr g Q ∧ val Q = m % 2 ^ k * 2 ^ n ∧ Below w.heap.size w wr

set_option maxRecDepth 100000 in
set_option maxHeartbeats 4000000 in
theorem rShift_left (va : Value) (la : List Nat) (n : Nat) (w : World) (ha : Arg w va la) (hex0 : examW [la] = 0) (hn : n ≤ 20000) (hfit : bitsOf (val la) + n ≤ 16384) :
    Calls Tryz.prog 33 #[va, .int .i64 (n : Int)] w (Res w (val la * 2 ^ n, 0)) := by
  have hex := rexam1 va la w ha
  rw [hex0] at hex
  obtain ⟨hnum, hlen, hdg⟩ := ha.num hex0 (by simp)
  obtain ⟨m, hm⟩ : ∃ m, m = val la := ⟨_, rfl⟩
  rw [← hm] at hnum hlen hdg hfit ⊢
  have hR : bitsOf m ≤ 32 * (dg m).length := by rw [bits_le_iff, ← LBpow]; exact lt_dg m
  have hmlt := bits_lt m
  have hsz := fun W (h : Below w.heap.size w W) => rsize_any va m w.heap.size W (Num.below hnum h) (by omega)
  have hbt := fun W (h : Below w.heap.size w W) q r x (hx : (dg m)[q]? = some x) (hr : r < 32) => rbit_any va (dg m) q r x w.heap.size W (Lim.below hnum h) hx hr
  obtain ⟨A, capa, rfl, -⟩ := ha.1.form
  obtain ⟨R, hRR⟩ : ∃ R, R = bitsOf m := ⟨_, rfl⟩
  rw [← hRR] at hR hmlt hsz hfit
  have HEX := Lib.hid hex
  have HSZ := Lib.hid hsz
  have HBT := Lib.hid hbt
  have HML := Lib.hid hmlt
  have HRL := Lib.hid hR
  have HLN := Lib.hid hlen
  clear hex hsz hbt hmlt hR hlen ha hnum hdg hm hex0 hRR
  generalize la.length = l1 at *
  have n0 : (0 : Int) ≤ (n : Int) := Int.natCast_nonneg _
  have n1 : (n : Int) ≤ 20000 := by omega
  have n2 : (-20000 : Int) ≤ (n : Int) := by omega
  have R0 : (0 : Int) ≤ (R : Int) := Int.natCast_nonneg _
  have hsum : ¬ (16384 : Int) < (R : Int) + (n : Int) := by omega
  have hmk := fun W => mkI 512 512 rfl (by omega) W
  rcases Nat.eq_zero_or_pos l1 with hl | hl
  · subst hl
    go_enter Tryz.func33, Tryz.ntmps33
    go_wp2_with fail
    refine HEX.out.mono ?_
    rintro e w1 ⟨he, hb1⟩
    subst he
    have HB1 := Lib.hid hb1
    clear hb1
    have HROW := Lib.hid (Row.new w1 512)
    have HB3 := Lib.hid (HB1.out.trans ((below_al w1 (.cells (zeros 512).toArray 64)).mono HB1.out.size))
    obtain ⟨g, hg⟩ : ∃ g, g = w1.heap.size := ⟨_, rfl⟩
    have HG := Lib.hid (show w.heap.size ≤ g by rw [hg]; exact HB1.out.size)
    go_wp2_with fail
    rw [← hg]
    rw [← hg] at HROW
    clear hmk
    generalize w1.alloc _ = W3 at *
    clear hg HB1
    go_wp2_with fail
    go_loopw [8] (fun iv wr => ShRel w m n R g iv wr) (fun i _ => R - (intOf i).toNat)
    case atStart =>
      exact ⟨0, _, Nat.zero_le _, rfl, by simp, okL_zero _, HROW.out, by rw [Nat.pow_zero, Nat.mod_one, Nat.zero_mul]; exact val_zero _, HB3.out⟩
    case round =>
      obtain ⟨k, Q, hk, rfl, hL, hok, hrow, hv, hbl⟩ := hrel
      have k0 : (0 : Int) ≤ (k : Int) := Int.natCast_nonneg _
      have HSC := Lib.hid (HSZ.out wr hbl)
      have HOK := Lib.hid hok
      have HL := Lib.hid hL
      have HRW := Lib.hid hrow
      have HV := Lib.hid hv
      have HBB := Lib.hid hbl
      clear hL hok hrow hv hbl
      by_cases hlt : k < R
      · have hkR : (k : Int) < (R : Int) := by omega
        obtain ⟨j, hj⟩ : ∃ j, j = k + n := ⟨_, rfl⟩
        obtain ⟨q, t, hqt, ht⟩ : ∃ q t, j = 32 * q + t ∧ t < 32 := ⟨j / 32, j % 32, by omega, by omega⟩
        have hq : q < 512 := by omega
        obtain ⟨q', t', hk', ht'⟩ : ∃ q t, k = 32 * q + t ∧ t < 32 := ⟨k / 32, k % 32, by omega, by omega⟩
        obtain ⟨x, hx⟩ : ∃ x, (dg m)[q']? = some x := ⟨(dg m)[q']'(by have := HRL.out; omega), List.getElem?_eq_getElem _⟩
        have hxv := limb_val (ok_dg m) q'
        rw [hx, Option.getD_some, val_dg] at hxv
        have hbit := fun W (h : Below w.heap.size w W) => HBT.out W h q' t' x hx ht' (by have := HRL.out; have := HLN.out; omega)
        rw [hxv, bit_of_limb ht', ← hk'] at hbit
        obtain ⟨o, ho⟩ : ∃ o, Q[q]? = some o := ⟨Q[q]'(by have := HL.out; omega), List.getElem?_eq_getElem _⟩
        have hov := limb_val HOK.out q
        rw [ho, Option.getD_some] at hov
        have hol : o < 4294967296 := Lim.lt HOK.out ho
        have hot : o < 2 ^ t := by rw [hov]; exact limb_high (by rw [HV.out, ← hqt]; exact sh_lt hj) ht
        obtain ⟨b, hb⟩ : ∃ b, b = m / 2 ^ k % 2 := ⟨_, rfl⟩
        rw [← hb] at hbit
        have hstep := sh_step (m := m) hj
        rw [← hb] at hstep
        have hpw : LB ^ q * 2 ^ t = 2 ^ j := by rw [LBpow, ← Nat.pow_add, hqt]
        have HSTEP := Lib.hid hstep
        have HPW := Lib.hid hpw
        have HO := Lib.hid ho
        have HBIT := Lib.hid hbit
        have e0 : IntKind.i64.wrap ((k : Int) + (n : Int)) = (j : Int) := by rw [IntWalk.i64_in _ (by omega)]; omega
        have e00 : (0 : Int) ≤ (k : Int) + (n : Int) := by omega
        have e01 : (k : Int) + (n : Int) = (j : Int) := by omega
        have j0 : (0 : Int) ≤ (j : Int) := Int.natCast_nonneg _
        have e1 : (j : Int).tdiv 32 = (q : Int) := by rw [Int.tdiv_eq_ediv_of_nonneg j0]; omega
        have e2 : (j : Int).tmod 32 = (t : Int) := by rw [Int.tmod_eq_emod_of_nonneg j0]; omega
        have q0 : (0 : Int) ≤ (q : Int) := Int.natCast_nonneg _
        have q1 : (q : Int) < 512 := by omega
        have t0 : (0 : Int) ≤ (t : Int) := Int.natCast_nonneg _
        have i1 : IntKind.i64.wrap (q : Int) = (q : Int) := IntWalk.i64_in _ (by omega)
        have i2 : IntKind.i64.wrap (t : Int) = (t : Int) := IntWalk.i64_in _ (by omega)
        have hb2 : b = 0 ∨ b = 1 := by omega
        have hpp : (2 : Int) ^ t % 4294967296 = ((2 ^ t : Nat) : Int) := by
          have h2 : 2 ^ t < 4294967296 := Nat.lt_of_le_of_lt (Nat.le_add_left _ _) (or_high ht hot).2
          rw [show (2 : Int) ^ t = ((2 ^ t : Nat) : Int) by rw [Int.natCast_pow]; rfl]
          generalize 2 ^ t = z at *
          omega
        have HPP := Lib.hid hpp
        have HOR := Lib.hid (or_high ht hot)
        have HOL := Lib.hid hol
        clear hpp hot
        have HJ := Lib.hid (show j ≤ 40000 by have := HRL.out; omega)
        have kb : k < 4294967296 := by omega
        clear hstep hpw ho hbit hb hxv hx hov hj hqt hk' ht'
        go_wp2_with fail
        refine HSC.out.mono ?_
        rintro e wq ⟨he, hd⟩
        subst he
        have hbq := HBB.out.trans (hd.below.mono HBB.out.size)
        have hrowq : Row wq g Q := HRW.out.up hd.below
        have HBQ := Lib.hid hbq
        have HRQ := Lib.hid hrowq
        clear hd hbq hrowq
        have c0 : wq.drew.cell? ⟨g, q, none⟩ = some (.int .u32 (o : Int)) := HRQ.out.cell HO.out
        have f0 : wq.drew.frozen? ⟨g, q, none⟩ = false := HRQ.out.frozen q
        have HBI := Lib.hid (HBIT.out wq.drew HBQ.out.drew)
        go_wp2_with fail
        have e3 : IntKind.i64.wrap (j : Int) = (j : Int) := IntWalk.i64_in _ (by have := HJ.out; omega)
        rcases hb2 with rfl | rfl
        · go_still_tail 22, (by kernel_rfl)
          still_call (HBI.out.mono fun e w' h => ⟨h.1, h.2.symm⟩)
          repeat still_step
          try refine wpStill_nil ?_
          change wpList _ _ _ _ _ wq.drew
          have hrow4 : Row wq.drew g Q := HRQ.out
          have H4 := Lib.hid (hrow4.set q o)
          have HB4 := Lib.hid (HBQ.out.drew)
          clear hrow4 HBI
          generalize wq.drew = w4 at *
          go_wp2_with fail
          rw [or_none HOL.out]
          have hv5 : val (Q.set q o) = m % 2 ^ (k + 1) * 2 ^ n := by
            have h1 := val_set o HO.out
            rw [HSTEP.out]
            have h2 := HV.out
            have h3 := HPW.out
            omega
          go_roundw
          case rel =>
            refine ⟨k + 1, Q.set q o, by omega, by go_num, by rw [List.length_set]; exact HL.out, okL_set HOK.out (by rw [LB_eq]; exact HOL.out), H4.out, hv5, HB4.out.setCell (p := ⟨g, q, none⟩) HG.out _⟩
          case measure => simp [intOf]; omega
        · go_still_tail 22, (by kernel_rfl)
          still_call (HBI.out.mono fun e w' h => ⟨h.1, h.2.symm⟩)
          repeat still_step
          try refine wpStill_nil ?_
          change wpList _ _ _ _ _ wq.drew
          have hrow4 : Row wq.drew g Q := HRQ.out
          have H4 := Lib.hid (hrow4.set q (o + 2 ^ t))
          have HB4 := Lib.hid (HBQ.out.drew)
          clear hrow4 HBI
          generalize wq.drew = w4 at *
          go_wp2_with fail
          rw [HPP.out, HOR.out.1]
          have hv5 : val (Q.set q (o + 2 ^ t)) = m % 2 ^ (k + 1) * 2 ^ n := by
            have h1 := val_set (o + 2 ^ t) HO.out
            rw [HSTEP.out]
            have h2 := HV.out
            have h3 := HPW.out
            rw [Nat.mul_add, h3, h2] at h1
            rw [Nat.mul_one]
            omega
          go_roundw
          case rel =>
            refine ⟨k + 1, Q.set q (o + 2 ^ t), by omega, by go_num, by rw [List.length_set]; exact HL.out, okL_set HOK.out (by rw [LB_eq]; exact HOR.out.2), H4.out, hv5, HB4.out.setCell (p := ⟨g, q, none⟩) HG.out _⟩
          case measure => simp [intOf]; omega
      · have hkR : ¬ (k : Int) < (R : Int) := by omega
        obtain rfl : k = R := by omega
        go_wp2_with fail
        refine HSC.out.mono ?_
        rintro e wq ⟨he, hd⟩
        subst he
        have hlim := (HRW.out.up hd.below).whole HOK.out 512 (by rw [HL.out]; exact Nat.le_refl _)
        have htr := rtrim_any _ _ _ hlim (by rw [HL.out]; omega)
        rw [HV.out, Nat.mod_eq_of_lt HML.out, HL.out] at htr
        have HT := Lib.hid htr
        have HBQ := Lib.hid (HBB.out.trans (hd.below.mono HBB.out.size))
        clear hlim htr hd
        go_wp2_with fail
        refine HT.out.mono ?_
        rintro e w5 ⟨v, he, hnum, hb2, -⟩
        subst he
        go_wp2_with fail
        go_ret2
        exact ⟨_, rfl, hnum, HBQ.out.trans (hb2.mono HBQ.out.size)⟩
  · have hl0 : (0 : Int) < (l1 : Int) := by omega
    go_enter Tryz.func33, Tryz.ntmps33
    go_wp2_with fail
    refine HEX.out.mono ?_
    rintro e w1 ⟨he, hb1⟩
    subst he
    have HB1 := Lib.hid hb1
    have HS1 := Lib.hid (HSZ.out w1 hb1)
    clear hb1
    have eS : IntKind.i64.wrap ((R : Int) + (n : Int)) = (R : Int) + (n : Int) := IntWalk.i64_in _ (by omega)
    go_wp2_with fail
    refine HS1.out.mono ?_
    rintro e w2 ⟨he, hd⟩
    subst he
    have HB2 := Lib.hid (HB1.out.trans (hd.below.mono HB1.out.size))
    clear hd HS1 HB1
    have HROW := Lib.hid (Row.new w2 512)
    have HB3 := Lib.hid (HB2.out.trans ((below_al w2 (.cells (zeros 512).toArray 64)).mono HB2.out.size))
    obtain ⟨g, hg⟩ : ∃ g, g = w2.heap.size := ⟨_, rfl⟩
    have HG := Lib.hid (show w.heap.size ≤ g by rw [hg]; exact HB2.out.size)
    go_wp2_with fail
    rw [← hg]
    rw [← hg] at HROW
    clear hmk
    generalize w2.alloc _ = W3 at *
    clear hg HB2
    go_wp2_with fail
    go_loopw [8] (fun iv wr => ShRel w m n R g iv wr) (fun i _ => R - (intOf i).toNat)
    case atStart =>
      exact ⟨0, _, Nat.zero_le _, rfl, by simp, okL_zero _, HROW.out, by rw [Nat.pow_zero, Nat.mod_one, Nat.zero_mul]; exact val_zero _, HB3.out⟩
    case round =>
      obtain ⟨k, Q, hk, rfl, hL, hok, hrow, hv, hbl⟩ := hrel
      have k0 : (0 : Int) ≤ (k : Int) := Int.natCast_nonneg _
      have HSC := Lib.hid (HSZ.out wr hbl)
      have HOK := Lib.hid hok
      have HL := Lib.hid hL
      have HRW := Lib.hid hrow
      have HV := Lib.hid hv
      have HBB := Lib.hid hbl
      clear hL hok hrow hv hbl
      by_cases hlt : k < R
      · have hkR : (k : Int) < (R : Int) := by omega
        obtain ⟨j, hj⟩ : ∃ j, j = k + n := ⟨_, rfl⟩
        obtain ⟨q, t, hqt, ht⟩ : ∃ q t, j = 32 * q + t ∧ t < 32 := ⟨j / 32, j % 32, by omega, by omega⟩
        have hq : q < 512 := by omega
        obtain ⟨q', t', hk', ht'⟩ : ∃ q t, k = 32 * q + t ∧ t < 32 := ⟨k / 32, k % 32, by omega, by omega⟩
        obtain ⟨x, hx⟩ : ∃ x, (dg m)[q']? = some x := ⟨(dg m)[q']'(by have := HRL.out; omega), List.getElem?_eq_getElem _⟩
        have hxv := limb_val (ok_dg m) q'
        rw [hx, Option.getD_some, val_dg] at hxv
        have hbit := fun W (h : Below w.heap.size w W) => HBT.out W h q' t' x hx ht' (by have := HRL.out; have := HLN.out; omega)
        rw [hxv, bit_of_limb ht', ← hk'] at hbit
        obtain ⟨o, ho⟩ : ∃ o, Q[q]? = some o := ⟨Q[q]'(by have := HL.out; omega), List.getElem?_eq_getElem _⟩
        have hov := limb_val HOK.out q
        rw [ho, Option.getD_some] at hov
        have hol : o < 4294967296 := Lim.lt HOK.out ho
        have hot : o < 2 ^ t := by rw [hov]; exact limb_high (by rw [HV.out, ← hqt]; exact sh_lt hj) ht
        obtain ⟨b, hb⟩ : ∃ b, b = m / 2 ^ k % 2 := ⟨_, rfl⟩
        rw [← hb] at hbit
        have hstep := sh_step (m := m) hj
        rw [← hb] at hstep
        have hpw : LB ^ q * 2 ^ t = 2 ^ j := by rw [LBpow, ← Nat.pow_add, hqt]
        have HSTEP := Lib.hid hstep
        have HPW := Lib.hid hpw
        have HO := Lib.hid ho
        have HBIT := Lib.hid hbit
        have e0 : IntKind.i64.wrap ((k : Int) + (n : Int)) = (j : Int) := by rw [IntWalk.i64_in _ (by omega)]; omega
        have e00 : (0 : Int) ≤ (k : Int) + (n : Int) := by omega
        have e01 : (k : Int) + (n : Int) = (j : Int) := by omega
        have j0 : (0 : Int) ≤ (j : Int) := Int.natCast_nonneg _
        have e1 : (j : Int).tdiv 32 = (q : Int) := by rw [Int.tdiv_eq_ediv_of_nonneg j0]; omega
        have e2 : (j : Int).tmod 32 = (t : Int) := by rw [Int.tmod_eq_emod_of_nonneg j0]; omega
        have q0 : (0 : Int) ≤ (q : Int) := Int.natCast_nonneg _
        have q1 : (q : Int) < 512 := by omega
        have t0 : (0 : Int) ≤ (t : Int) := Int.natCast_nonneg _
        have i1 : IntKind.i64.wrap (q : Int) = (q : Int) := IntWalk.i64_in _ (by omega)
        have i2 : IntKind.i64.wrap (t : Int) = (t : Int) := IntWalk.i64_in _ (by omega)
        have hb2 : b = 0 ∨ b = 1 := by omega
        have hpp : (2 : Int) ^ t % 4294967296 = ((2 ^ t : Nat) : Int) := by
          have h2 : 2 ^ t < 4294967296 := Nat.lt_of_le_of_lt (Nat.le_add_left _ _) (or_high ht hot).2
          rw [show (2 : Int) ^ t = ((2 ^ t : Nat) : Int) by rw [Int.natCast_pow]; rfl]
          generalize 2 ^ t = z at *
          omega
        have HPP := Lib.hid hpp
        have HOR := Lib.hid (or_high ht hot)
        have HOL := Lib.hid hol
        clear hpp hot
        have HJ := Lib.hid (show j ≤ 40000 by have := HRL.out; omega)
        have kb : k < 4294967296 := by omega
        clear hstep hpw ho hbit hb hxv hx hov hj hqt hk' ht'
        go_wp2_with fail
        refine HSC.out.mono ?_
        rintro e wq ⟨he, hd⟩
        subst he
        have hbq := HBB.out.trans (hd.below.mono HBB.out.size)
        have hrowq : Row wq g Q := HRW.out.up hd.below
        have HBQ := Lib.hid hbq
        have HRQ := Lib.hid hrowq
        clear hd hbq hrowq
        have c0 : wq.drew.cell? ⟨g, q, none⟩ = some (.int .u32 (o : Int)) := HRQ.out.cell HO.out
        have f0 : wq.drew.frozen? ⟨g, q, none⟩ = false := HRQ.out.frozen q
        have HBI := Lib.hid (HBIT.out wq.drew HBQ.out.drew)
        go_wp2_with fail
        have e3 : IntKind.i64.wrap (j : Int) = (j : Int) := IntWalk.i64_in _ (by have := HJ.out; omega)
        rcases hb2 with rfl | rfl
        · go_still_tail 22, (by kernel_rfl)
          still_call (HBI.out.mono fun e w' h => ⟨h.1, h.2.symm⟩)
          repeat still_step
          try refine wpStill_nil ?_
          change wpList _ _ _ _ _ wq.drew
          have hrow4 : Row wq.drew g Q := HRQ.out
          have H4 := Lib.hid (hrow4.set q o)
          have HB4 := Lib.hid (HBQ.out.drew)
          clear hrow4 HBI
          generalize wq.drew = w4 at *
          go_wp2_with fail
          rw [or_none HOL.out]
          have hv5 : val (Q.set q o) = m % 2 ^ (k + 1) * 2 ^ n := by
            have h1 := val_set o HO.out
            rw [HSTEP.out]
            have h2 := HV.out
            have h3 := HPW.out
            omega
          go_roundw
          case rel =>
            refine ⟨k + 1, Q.set q o, by omega, by go_num, by rw [List.length_set]; exact HL.out, okL_set HOK.out (by rw [LB_eq]; exact HOL.out), H4.out, hv5, HB4.out.setCell (p := ⟨g, q, none⟩) HG.out _⟩
          case measure => simp [intOf]; omega
        · go_still_tail 22, (by kernel_rfl)
          still_call (HBI.out.mono fun e w' h => ⟨h.1, h.2.symm⟩)
          repeat still_step
          try refine wpStill_nil ?_
          change wpList _ _ _ _ _ wq.drew
          have hrow4 : Row wq.drew g Q := HRQ.out
          have H4 := Lib.hid (hrow4.set q (o + 2 ^ t))
          have HB4 := Lib.hid (HBQ.out.drew)
          clear hrow4 HBI
          generalize wq.drew = w4 at *
          go_wp2_with fail
          rw [HPP.out, HOR.out.1]
          have hv5 : val (Q.set q (o + 2 ^ t)) = m % 2 ^ (k + 1) * 2 ^ n := by
            have h1 := val_set (o + 2 ^ t) HO.out
            rw [HSTEP.out]
            have h2 := HV.out
            have h3 := HPW.out
            rw [Nat.mul_add, h3, h2] at h1
            rw [Nat.mul_one]
            omega
          go_roundw
          case rel =>
            refine ⟨k + 1, Q.set q (o + 2 ^ t), by omega, by go_num, by rw [List.length_set]; exact HL.out, okL_set HOK.out (by rw [LB_eq]; exact HOR.out.2), H4.out, hv5, HB4.out.setCell (p := ⟨g, q, none⟩) HG.out _⟩
          case measure => simp [intOf]; omega
      · have hkR : ¬ (k : Int) < (R : Int) := by omega
        obtain rfl : k = R := by omega
        go_wp2_with fail
        refine HSC.out.mono ?_
        rintro e wq ⟨he, hd⟩
        subst he
        have hlim := (HRW.out.up hd.below).whole HOK.out 512 (by rw [HL.out]; exact Nat.le_refl _)
        have htr := rtrim_any _ _ _ hlim (by rw [HL.out]; omega)
        rw [HV.out, Nat.mod_eq_of_lt HML.out, HL.out] at htr
        have HT := Lib.hid htr
        have HBQ := Lib.hid (HBB.out.trans (hd.below.mono HBB.out.size))
        clear hlim htr hd
        go_wp2_with fail
        refine HT.out.mono ?_
        rintro e w5 ⟨v, he, hnum, hb2, -⟩
        subst he
        go_wp2_with fail
        go_ret2
        exact ⟨_, rfl, hnum, HBQ.out.trans (hb2.mono HBQ.out.size)⟩
end Go.Proofs.YtlababdfdjjjaaaGreatDoor
