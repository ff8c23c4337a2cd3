import Derived.Test.YtokkcmadgcdpiaaDoorKG4
namespace Go.Proofs.YtokkcmadgcdpiaaDoor
open Go.RowKit

/-! The law's between and powers. -/
theorem cmpI_le {m n : Nat} : Wd.cmpI m n ≤ 0 ↔ m ≤ n := by
  unfold Wd.cmpI
  by_cases h1 : m < n
  · rw [if_pos h1]; omega
  · rw [if_neg h1]
    by_cases h2 : m = n
    · rw [if_pos h2]; omega
    · rw [if_neg h2]; omega
theorem cmpI_zero {m n : Nat} : Wd.cmpI m n = 0 ↔ m = n := by
  unfold Wd.cmpI
  by_cases h1 : m < n
  · rw [if_pos h1]; omega
  · rw [if_neg h1]
    by_cases h2 : m = n
    · rw [if_pos h2]; omega
    · rw [if_neg h2]; omega
theorem beq0 (C : Int) : (C == 0) = decide (C = 0) := by by_cases h : C = 0 <;> simp [h]
theorem mul_two_le {a k j : Nat} (h : a ≤ 2 ^ k) : a * 2 ^ j ≤ 2 ^ (k + j) := by
  rw [Nat.pow_add]
  exact Nat.mul_le_mul_right _ h
set_option maxRecDepth 100000 in
set_option maxHeartbeats 2000000 in
theorem between_any (va vx vb vy : Value) (a x b y k : Nat) (w : World) (ha : Wd.Arg w va (Wd.dg a)) (hx : Wd.Arg w vx (Wd.dg x)) (hb : Wd.Arg w vb (Wd.dg b)) (hy : Wd.Arg w vy (Wd.dg y)) (hk : k ≤ 20000)
    (la : (Wd.dg a).length ≤ 512) (lx : (Wd.dg x).length ≤ 512) (lb : (Wd.dg b).length ≤ 512) (ly : (Wd.dg y).length ≤ 512) (lxk : (Wd.dg (x ^ k)).length ≤ 512) (lyk : (Wd.dg (y ^ k)).length ≤ 512) (lu : (Wd.dg (a * x ^ k)).length ≤ 512) (lv : (Wd.dg (b * y ^ k)).length ≤ 512) :
    Calls Tryd.prog 41 #[va, vx, vb, vy, .int .i64 (k : Int)] w fun e w' => e = .returned (.tuple #[.bool (decide (a * x ^ k ≤ b * y ^ k)), .bool (decide (a * x ^ k = b * y ^ k))]) ∧ Below w.heap.size w w' := by
  have e1 : decide (Wd.cmpI (a * x ^ k) (b * y ^ k) ≤ 0) = decide (a * x ^ k ≤ b * y ^ k) := by simp only [cmpI_le]
  have e2 : (Wd.cmpI (a * x ^ k) (b * y ^ k) == 0) = decide (a * x ^ k = b * y ^ k) := by
    by_cases h : a * x ^ k = b * y ^ k
    · rw [decide_eq_true h, cmpI_zero.2 h]; rfl
    · rw [decide_eq_false h]; exact beq_false_of_ne (fun h2 => h (cmpI_zero.1 h2))
  have HA := Lib.hid ha
  have HX := Lib.hid hx
  have HB := Lib.hid hb
  have HY := Lib.hid hy
  have E1 := Lib.hid e1
  have E2 := Lib.hid e2
  clear ha hx hb hy e1 e2
  have HW := Lib.hid (Below.refl w.heap.size w)
  go_enter Tryd.func41, Tryd.ntmps41
  go_wp2_with fail
  refine (Wd.nPow HX.out lx hk lxk).mono ?_
  rintro e w1 ⟨vp, he, hp, hbl⟩
  subst he
  have HA' := Lib.hid (HA.out.up hbl)
  have HB' := Lib.hid (HB.out.up hbl)
  have HY' := Lib.hid (HY.out.up hbl)
  have HW1 := Lib.hid hbl
  have HP := Lib.hid hp
  clear HA HB HY HX HW hbl hp
  go_wp2_with fail
  refine (Wd.nPow HY'.out ly hk lyk).mono ?_
  rintro e w2 ⟨vq, he, hq, hbl⟩
  subst he
  have HA := Lib.hid (HA'.out.up hbl)
  have HB := Lib.hid (HB'.out.up hbl)
  have HP' := Lib.hid (HP.out.up hbl)
  have HW2 := Lib.hid (HW1.out.trans (hbl.mono HW1.out.size))
  have HQ := Lib.hid hq
  clear HA' HB' HY' HP HW1 hbl hq
  go_wp2_with fail
  refine (Wd.nMul HA.out HP'.out la lxk lu).mono ?_
  rintro e w3 ⟨vu, he, hu, hbl⟩
  subst he
  have HB' := Lib.hid (HB.out.up hbl)
  have HQ' := Lib.hid (HQ.out.up hbl)
  have HW3 := Lib.hid (HW2.out.trans (hbl.mono HW2.out.size))
  have HU := Lib.hid hu
  clear HA HB HP' HQ HW2 hbl hu
  go_wp2_with fail
  refine (Wd.nMul HB'.out HQ'.out lb lyk lv).mono ?_
  rintro e w4 ⟨vv, he, hv, hbl⟩
  subst he
  have HU' := Lib.hid (HU.out.up hbl)
  have HW4 := Lib.hid (HW3.out.trans (hbl.mono HW3.out.size))
  have HV := Lib.hid hv
  clear HB' HQ' HU HW3 hbl hv
  go_wp2_with fail
  refine (Wd.nCmp HU'.out HV.out lu lv).mono ?_
  rintro e w5 ⟨he, hbl⟩
  subst he
  have HW5 := Lib.hid (HW4.out.trans (hbl.mono HW4.out.size))
  clear HU' HV HW4 hbl
  generalize Wd.cmpI (a * x ^ k) (b * y ^ k) = C at *
  go_wp2
  refine bodyPost_ret (v := .tuple #[.bool (decide (C ≤ 0)), .bool (C == 0)]) (by simp [results, Tryd.results41, go_sem]) rfl ⟨?_, HW5.out⟩
  rw [E1.out, E2.out]
set_option maxRecDepth 100000 in
set_option maxHeartbeats 2000000 in
theorem powers_any (z : Int) (vn vd : Value) (n d : Nat) (w : World) (hn : Wd.Arg w vn (Wd.dg n)) (hd : Wd.Arg w vd (Wd.dg d)) (hz : -8300 ≤ z ∧ z ≤ 8300) (ln : n ≤ 2 ^ 8000) (ld : d ≤ 2 ^ 8000) :
    Calls Tryd.prog 43 #[.int .i64 z, vn, vd] w fun e w' => e = .returned (.tuple #[.bool (decide (d * 2 ^ z.toNat ≤ n * 2 ^ (-z).toNat)), .bool (decide (d * 2 ^ z.toNat = n * 2 ^ (-z).toNat))]) ∧ Below w.heap.size w w' := by
  have g1 := dg512 ln (by omega)
  have g2 := dg512 ld (by omega)
  have g3 : (Wd.dg (2 ^ z.natAbs)).length ≤ 512 := dg512 (Nat.le_refl _) (by omega)
  have g4 : (Wd.dg (d * 2 ^ z.natAbs)).length ≤ 512 := dg512 (mul_two_le ld) (by omega)
  have g5 : (Wd.dg (n * 2 ^ z.natAbs)).length ≤ 512 := dg512 (mul_two_le ln) (by omega)
  have g6 : (Wd.dg 2).length ≤ 512 := dg512 (k := 1) (by omega) (by omega)
  have HN := Lib.hid hn
  have HD := Lib.hid hd
  have G1 := Lib.hid g1
  have G2 := Lib.hid g2
  have G3 := Lib.hid g3
  have G4 := Lib.hid g4
  have G5 := Lib.hid g5
  have G6 := Lib.hid g6
  clear hn hd ln ld g1 g2 g3 g4 g5 g6
  by_cases h0 : 0 ≤ z
  · have e1 : d * 2 ^ z.toNat = d * 2 ^ z.natAbs := by rw [show z.toNat = z.natAbs by omega]
    have e2 : n * 2 ^ (-z).toNat = n := by rw [show (-z).toNat = 0 by omega, Nat.pow_zero, Nat.mul_one]
    rw [e1, e2]
    clear e1 e2
    go_enter Tryd.func43, Tryd.ntmps43
    go_wp2_with fail
    refine (nOf 2 (by omega) _).mono ?_
    rintro e w1 ⟨v2, he, h2, hbl⟩
    subst he
    have HN' := Lib.hid (HN.out.up hbl)
    have HD' := Lib.hid (HD.out.up hbl)
    have HW1 := Lib.hid hbl
    have H2 := Lib.hid h2
    clear HN HD hbl h2
    have em : max z (-z) = ((z.natAbs : Nat) : Int) := by omega
    go_wp2_with fail
    refine (Wd.nPow (k := z.natAbs) H2.out G6.out (by omega) G3.out).mono ?_
    rintro e w2 ⟨vp, he, hp, hbl⟩
    subst he
    have HN := Lib.hid (HN'.out.up hbl)
    have HD := Lib.hid (HD'.out.up hbl)
    have HW2 := Lib.hid (HW1.out.trans (hbl.mono HW1.out.size))
    have HP := Lib.hid hp
    clear HN' HD' HW1 hbl hp H2 em
    go_wp2_with fail
    refine (Wd.nMul HD.out HP.out G2.out G3.out G4.out).mono ?_
    rintro e w3 ⟨vu, he, hu, hbl⟩
    subst he
    have HN' := Lib.hid (HN.out.up hbl)
    have HW3 := Lib.hid (HW2.out.trans (hbl.mono HW2.out.size))
    have HU := Lib.hid hu
    clear HN HD HP HW2 hbl hu
    go_wp2_with fail
    refine (Wd.nCmp HU.out HN'.out G4.out G1.out).mono ?_
    rintro e w5 ⟨he, hbl⟩
    subst he
    have HW5 := Lib.hid (HW3.out.trans (hbl.mono HW3.out.size))
    clear HU HN' HW3 hbl
    have E1 := Lib.hid (cmpI_le (m := d * 2 ^ z.natAbs) (n := n))
    have E3 := Lib.hid (cmpI_zero (m := d * 2 ^ z.natAbs) (n := n))
    generalize Wd.cmpI (d * 2 ^ z.natAbs) n = C at *
    go_wp2
    refine bodyPost_ret (v := .tuple #[.bool (decide (C ≤ 0)), .bool (C == 0)]) (by simp [results, Tryd.results43, go_sem]) rfl ⟨?_, HW5.out⟩
    rw [beq0, decide_eq_decide.2 E1.out, decide_eq_decide.2 E3.out]
  · have e1 : d * 2 ^ z.toNat = d := by rw [show z.toNat = 0 by omega, Nat.pow_zero, Nat.mul_one]
    have e2 : n * 2 ^ (-z).toNat = n * 2 ^ z.natAbs := by rw [show (-z).toNat = z.natAbs by omega]
    rw [e1, e2]
    clear e1 e2
    go_enter Tryd.func43, Tryd.ntmps43
    go_wp2_with fail
    refine (nOf 2 (by omega) _).mono ?_
    rintro e w1 ⟨v2, he, h2, hbl⟩
    subst he
    have HN' := Lib.hid (HN.out.up hbl)
    have HD' := Lib.hid (HD.out.up hbl)
    have HW1 := Lib.hid hbl
    have H2 := Lib.hid h2
    clear HN HD hbl h2
    have em : max z (-z) = ((z.natAbs : Nat) : Int) := by omega
    go_wp2_with fail
    refine (Wd.nPow (k := z.natAbs) H2.out G6.out (by omega) G3.out).mono ?_
    rintro e w2 ⟨vp, he, hp, hbl⟩
    subst he
    have HN := Lib.hid (HN'.out.up hbl)
    have HD := Lib.hid (HD'.out.up hbl)
    have HW2 := Lib.hid (HW1.out.trans (hbl.mono HW1.out.size))
    have HP := Lib.hid hp
    clear HN' HD' HW1 hbl hp H2 em
    go_wp2_with fail
    refine (Wd.nMul HN.out HP.out G1.out G3.out G5.out).mono ?_
    rintro e w3 ⟨vu, he, hu, hbl⟩
    subst he
    have HD' := Lib.hid (HD.out.up hbl)
    have HW3 := Lib.hid (HW2.out.trans (hbl.mono HW2.out.size))
    have HU := Lib.hid hu
    clear HN HD HP HW2 hbl hu
    go_wp2_with fail
    refine (Wd.nCmp HD'.out HU.out G2.out G5.out).mono ?_
    rintro e w5 ⟨he, hbl⟩
    subst he
    have HW5 := Lib.hid (HW3.out.trans (hbl.mono HW3.out.size))
    clear HU HD' HW3 hbl
    have E1 := Lib.hid (cmpI_le (m := d) (n := n * 2 ^ z.natAbs))
    have E3 := Lib.hid (cmpI_zero (m := d) (n := n * 2 ^ z.natAbs))
    generalize Wd.cmpI d (n * 2 ^ z.natAbs) = C at *
    go_wp2
    refine bodyPost_ret (v := .tuple #[.bool (decide (C ≤ 0)), .bool (C == 0)]) (by simp [results, Tryd.results43, go_sem]) rfl ⟨?_, HW5.out⟩
    rw [beq0, decide_eq_decide.2 E1.out, decide_eq_decide.2 E3.out]
end Go.Proofs.YtokkcmadgcdpiaaDoor
