import Derived.Test.YtlababdfdjjjaaaGreatDoorB2
namespace Go.Proofs.YtlababdfdjjjaaaGreatDoor
open Go.RowKit

set_option maxRecDepth 100000 in
set_option maxHeartbeats 16000000 in
theorem lawWideRing_any (A B C : Option Addr) (n1 ca n2 cb n3 cc a b c : Nat) (w : World) (hT : Tabs w) (fa : ValOk w A n1 ca a) (fb : ValOk w B n2 cb b) (fc : ValOk w C n3 cc c) :
    Calls Tryz.prog 11 #[.slice A n1 ca, .slice B n2 cb, .slice C n3 cc] w fun e w' => e = .returned (.bool true) ∧ Below w.heap.size w w' := by
  have HT := Lib.hid hT
  have HB := Lib.hid (Below.refl w.heap.size w)
  obtain ⟨b1, hf1, hg1⟩ := fa
  obtain ⟨b2, hf2, hg2⟩ := fb
  obtain ⟨b3, hf3, hg3⟩ := fc
  have F1 := Lib.hid hf1
  have F2 := Lib.hid hf2
  have F3 := Lib.hid hf3
  have G1 := Lib.hid hg1
  have G2 := Lib.hid hg2
  have G3 := Lib.hid hg3
  clear hf1 hf2 hf3 hg1 hg2 hg3 hT
  cases b1
  · clear F2 F3 G1 G2 G3
    go_enter Tryz.func11, Tryz.ntmps11
    go_wp2_with fail
    refine (F1.out _ HB.out).mono ?_
    rintro e w1 ⟨he, hb⟩
    subst he
    have HB' := Lib.hid (HB.out.trans (hb.mono HB.out.size))
    clear HB
    have HB := HB'
    clear HB'
    clear hb
    go_wp2_with fail
    refine (awake_any _ (HT.out.below HB.out)).mono ?_
    rintro e w2 ⟨he, hb⟩
    subst he
    go_wp2_with fail
    go_ret
    exact ⟨rfl, HB.out.trans (hb.mono HB.out.size)⟩
  cases b2
  · clear F3 G1 G2 G3
    go_enter Tryz.func11, Tryz.ntmps11
    go_wp2_with fail
    refine (F1.out _ HB.out).mono ?_
    rintro e w1 ⟨he, hb⟩
    subst he
    have HB' := Lib.hid (HB.out.trans (hb.mono HB.out.size))
    clear HB
    have HB := HB'
    clear HB'
    clear hb
    go_wp2_with fail
    refine (F2.out _ HB.out).mono ?_
    rintro e w2 ⟨he, hb⟩
    subst he
    have HB' := Lib.hid (HB.out.trans (hb.mono HB.out.size))
    clear HB
    have HB := HB'
    clear HB'
    clear hb
    go_wp2_with fail
    refine (awake_any _ (HT.out.below HB.out)).mono ?_
    rintro e w3 ⟨he, hb⟩
    subst he
    go_wp2_with fail
    go_ret
    exact ⟨rfl, HB.out.trans (hb.mono HB.out.size)⟩
  cases b3
  · clear G1 G2 G3
    go_enter Tryz.func11, Tryz.ntmps11
    go_wp2_with fail
    refine (F1.out _ HB.out).mono ?_
    rintro e w1 ⟨he, hb⟩
    subst he
    have HB' := Lib.hid (HB.out.trans (hb.mono HB.out.size))
    clear HB
    have HB := HB'
    clear HB'
    clear hb
    go_wp2_with fail
    refine (F2.out _ HB.out).mono ?_
    rintro e w2 ⟨he, hb⟩
    subst he
    have HB' := Lib.hid (HB.out.trans (hb.mono HB.out.size))
    clear HB
    have HB := HB'
    clear HB'
    clear hb
    go_wp2_with fail
    refine (F3.out _ HB.out).mono ?_
    rintro e w3 ⟨he, hb⟩
    subst he
    have HB' := Lib.hid (HB.out.trans (hb.mono HB.out.size))
    clear HB
    have HB := HB'
    clear HB'
    clear hb
    go_wp2_with fail
    refine (awake_any _ (HT.out.below HB.out)).mono ?_
    rintro e w4 ⟨he, hb⟩
    subst he
    go_wp2_with fail
    go_ret
    exact ⟨rfl, HB.out.trans (hb.mono HB.out.size)⟩
  obtain ⟨ha, hn1, hl1⟩ := G1.out (by trivial)
  obtain ⟨hb, hn2, hl2⟩ := G2.out (by trivial)
  obtain ⟨hc, hn3, hl3⟩ := G3.out (by trivial)
  clear G1 G2 G3
  by_cases t1 : (120 : Int) < (n1 : Int)
  · clear ha hb hc hn1 hn2 hn3
    go_enter Tryz.func11, Tryz.ntmps11
    go_wp2_with fail
    refine (F1.out _ HB.out).mono ?_
    rintro e w1 ⟨he, hb⟩
    subst he
    have HB' := Lib.hid (HB.out.trans (hb.mono HB.out.size))
    clear HB
    have HB := HB'
    clear HB'
    clear hb
    go_wp2_with fail
    refine (F2.out _ HB.out).mono ?_
    rintro e w2 ⟨he, hb⟩
    subst he
    have HB' := Lib.hid (HB.out.trans (hb.mono HB.out.size))
    clear HB
    have HB := HB'
    clear HB'
    clear hb
    go_wp2_with fail
    refine (F3.out _ HB.out).mono ?_
    rintro e w3 ⟨he, hb⟩
    subst he
    have HB' := Lib.hid (HB.out.trans (hb.mono HB.out.size))
    clear HB
    have HB := HB'
    clear HB'
    clear hb
    go_wp2_with fail
    refine (awake_any _ (HT.out.below HB.out)).mono ?_
    rintro e w4 ⟨he, hb⟩
    subst he
    go_wp2_with fail
    go_ret
    exact ⟨rfl, HB.out.trans (hb.mono HB.out.size)⟩
  by_cases t2 : (120 : Int) < (n2 : Int)
  · clear ha hb hc hn1 hn2 hn3
    go_enter Tryz.func11, Tryz.ntmps11
    go_wp2_with fail
    refine (F1.out _ HB.out).mono ?_
    rintro e w1 ⟨he, hb⟩
    subst he
    have HB' := Lib.hid (HB.out.trans (hb.mono HB.out.size))
    clear HB
    have HB := HB'
    clear HB'
    clear hb
    go_wp2_with fail
    refine (F2.out _ HB.out).mono ?_
    rintro e w2 ⟨he, hb⟩
    subst he
    have HB' := Lib.hid (HB.out.trans (hb.mono HB.out.size))
    clear HB
    have HB := HB'
    clear HB'
    clear hb
    go_wp2_with fail
    refine (F3.out _ HB.out).mono ?_
    rintro e w3 ⟨he, hb⟩
    subst he
    have HB' := Lib.hid (HB.out.trans (hb.mono HB.out.size))
    clear HB
    have HB := HB'
    clear HB'
    clear hb
    go_wp2_with fail
    refine (awake_any _ (HT.out.below HB.out)).mono ?_
    rintro e w4 ⟨he, hb⟩
    subst he
    go_wp2_with fail
    go_ret
    exact ⟨rfl, HB.out.trans (hb.mono HB.out.size)⟩
  by_cases t3 : (120 : Int) < (n3 : Int)
  · clear ha hb hc hn1 hn2 hn3
    go_enter Tryz.func11, Tryz.ntmps11
    go_wp2_with fail
    refine (F1.out _ HB.out).mono ?_
    rintro e w1 ⟨he, hb⟩
    subst he
    have HB' := Lib.hid (HB.out.trans (hb.mono HB.out.size))
    clear HB
    have HB := HB'
    clear HB'
    clear hb
    go_wp2_with fail
    refine (F2.out _ HB.out).mono ?_
    rintro e w2 ⟨he, hb⟩
    subst he
    have HB' := Lib.hid (HB.out.trans (hb.mono HB.out.size))
    clear HB
    have HB := HB'
    clear HB'
    clear hb
    go_wp2_with fail
    refine (F3.out _ HB.out).mono ?_
    rintro e w3 ⟨he, hb⟩
    subst he
    have HB' := Lib.hid (HB.out.trans (hb.mono HB.out.size))
    clear HB
    have HB := HB'
    clear HB'
    clear hb
    go_wp2_with fail
    refine (awake_any _ (HT.out.below HB.out)).mono ?_
    rintro e w4 ⟨he, hb⟩
    subst he
    go_wp2_with fail
    go_ret
    exact ⟨rfl, HB.out.trans (hb.mono HB.out.size)⟩
  subst hn1 hn2 hn3
  have m1 : (dg a).length ≤ 120 := by omega
  have m2 : (dg b).length ≤ 120 := by omega
  have m3 : (dg c).length ≤ 120 := by omega
  have M0 := Lib.hid (show _ from len_add a b)
  have M1 := Lib.hid (show _ from len_add b c)
  have M2 := Lib.hid (show _ from len_add (a + b) c)
  have M3 := Lib.hid (show _ from len_add a (b + c))
  have M4 := Lib.hid (show _ from len_mul a b)
  have M5 := Lib.hid (show _ from len_mul b a)
  have M6 := Lib.hid (show _ from len_mul a (b + c))
  have M7 := Lib.hid (show _ from len_mul a c)
  have M8 := Lib.hid (show _ from len_add (a * b) (a * c))
  have M9 := Lib.hid (show _ from len_mul (a * b) c)
  have M10 := Lib.hid (show _ from len_mul c b)
  have M11 := Lib.hid (show _ from len_mul a (c * b))
  have X1 := Lib.hid m1
  have X2 := Lib.hid m2
  have X3 := Lib.hid m3
  have FA := Lib.hid ha
  have FB := Lib.hid hb
  have FC := Lib.hid hc
  clear ha hb hc m1 m2 m3 hl1 hl2 hl3
  go_enter Tryz.func11, Tryz.ntmps11
  go_wp2_with fail
  refine (F1.out _ HB.out).mono ?_
  rintro e w1 ⟨he, hb⟩
  subst he
  have FA' := Lib.hid (FA.out.up hb)
  clear FA
  have FA := FA'
  clear FA'
  have FB' := Lib.hid (FB.out.up hb)
  clear FB
  have FB := FB'
  clear FB'
  have FC' := Lib.hid (FC.out.up hb)
  clear FC
  have FC := FC'
  clear FC'
  have HB' := Lib.hid (HB.out.trans (hb.mono HB.out.size))
  clear HB
  have HB := HB'
  clear HB'
  clear hb
  go_wp2_with fail
  refine (F2.out _ HB.out).mono ?_
  rintro e w2 ⟨he, hb⟩
  subst he
  have FA' := Lib.hid (FA.out.up hb)
  clear FA
  have FA := FA'
  clear FA'
  have FB' := Lib.hid (FB.out.up hb)
  clear FB
  have FB := FB'
  clear FB'
  have FC' := Lib.hid (FC.out.up hb)
  clear FC
  have FC := FC'
  clear FC'
  have HB' := Lib.hid (HB.out.trans (hb.mono HB.out.size))
  clear HB
  have HB := HB'
  clear HB'
  clear hb
  go_wp2_with fail
  refine (F3.out _ HB.out).mono ?_
  rintro e w3 ⟨he, hb⟩
  subst he
  have FA' := Lib.hid (FA.out.up hb)
  clear FA
  have FA := FA'
  clear FA'
  have FB' := Lib.hid (FB.out.up hb)
  clear FB
  have FB := FB'
  clear FB'
  have FC' := Lib.hid (FC.out.up hb)
  clear FC
  have FC := FC'
  clear FC'
  have HB' := Lib.hid (HB.out.trans (hb.mono HB.out.size))
  clear HB
  have HB := HB'
  clear HB'
  clear hb
  go_wp2_with fail
  refine (nAdd FA.out FB.out (by have := M0.out; have := M1.out; have := M2.out; have := M3.out; have := M4.out; have := M5.out; have := M6.out; have := M7.out; have := M8.out; have := M9.out; have := M10.out; have := M11.out; have := X1.out; have := X2.out; have := X3.out; omega) (by have := M0.out; have := M1.out; have := M2.out; have := M3.out; have := M4.out; have := M5.out; have := M6.out; have := M7.out; have := M8.out; have := M9.out; have := M10.out; have := M11.out; have := X1.out; have := X2.out; have := X3.out; omega) (by have := M0.out; have := M1.out; have := M2.out; have := M3.out; have := M4.out; have := M5.out; have := M6.out; have := M7.out; have := M8.out; have := M9.out; have := M10.out; have := M11.out; have := X1.out; have := X2.out; have := X3.out; omega)).mono ?_
  rintro e w4 ⟨vAB, he, hAB, hb⟩
  subst he
  have FA' := Lib.hid (FA.out.up hb)
  clear FA
  have FA := FA'
  clear FA'
  have FB' := Lib.hid (FB.out.up hb)
  clear FB
  have FB := FB'
  clear FB'
  have FC' := Lib.hid (FC.out.up hb)
  clear FC
  have FC := FC'
  clear FC'
  have HB' := Lib.hid (HB.out.trans (hb.mono HB.out.size))
  clear HB
  have HB := HB'
  clear HB'
  clear hb
  have AB := Lib.hid hAB
  clear hAB
  go_wp2_with fail
  refine (nAdd FB.out FC.out (by have := M0.out; have := M1.out; have := M2.out; have := M3.out; have := M4.out; have := M5.out; have := M6.out; have := M7.out; have := M8.out; have := M9.out; have := M10.out; have := M11.out; have := X1.out; have := X2.out; have := X3.out; omega) (by have := M0.out; have := M1.out; have := M2.out; have := M3.out; have := M4.out; have := M5.out; have := M6.out; have := M7.out; have := M8.out; have := M9.out; have := M10.out; have := M11.out; have := X1.out; have := X2.out; have := X3.out; omega) (by have := M0.out; have := M1.out; have := M2.out; have := M3.out; have := M4.out; have := M5.out; have := M6.out; have := M7.out; have := M8.out; have := M9.out; have := M10.out; have := M11.out; have := X1.out; have := X2.out; have := X3.out; omega)).mono ?_
  rintro e w5 ⟨vBC, he, hBC, hb⟩
  subst he
  have FA' := Lib.hid (FA.out.up hb)
  clear FA
  have FA := FA'
  clear FA'
  have FB' := Lib.hid (FB.out.up hb)
  clear FB
  have FB := FB'
  clear FB'
  have FC' := Lib.hid (FC.out.up hb)
  clear FC
  have FC := FC'
  clear FC'
  have AB' := Lib.hid (AB.out.up hb)
  clear AB
  have AB := AB'
  clear AB'
  have HB' := Lib.hid (HB.out.trans (hb.mono HB.out.size))
  clear HB
  have HB := HB'
  clear HB'
  clear hb
  have BC := Lib.hid hBC
  clear hBC
  go_wp2_with fail
  refine (nAdd AB.out FC.out (by have := M0.out; have := M1.out; have := M2.out; have := M3.out; have := M4.out; have := M5.out; have := M6.out; have := M7.out; have := M8.out; have := M9.out; have := M10.out; have := M11.out; have := X1.out; have := X2.out; have := X3.out; omega) (by have := M0.out; have := M1.out; have := M2.out; have := M3.out; have := M4.out; have := M5.out; have := M6.out; have := M7.out; have := M8.out; have := M9.out; have := M10.out; have := M11.out; have := X1.out; have := X2.out; have := X3.out; omega) (by have := M0.out; have := M1.out; have := M2.out; have := M3.out; have := M4.out; have := M5.out; have := M6.out; have := M7.out; have := M8.out; have := M9.out; have := M10.out; have := M11.out; have := X1.out; have := X2.out; have := X3.out; omega)).mono ?_
  rintro e w6 ⟨vLf, he, hLf, hb⟩
  subst he
  have FA' := Lib.hid (FA.out.up hb)
  clear FA
  have FA := FA'
  clear FA'
  have FB' := Lib.hid (FB.out.up hb)
  clear FB
  have FB := FB'
  clear FB'
  have FC' := Lib.hid (FC.out.up hb)
  clear FC
  have FC := FC'
  clear FC'
  have AB' := Lib.hid (AB.out.up hb)
  clear AB
  have AB := AB'
  clear AB'
  have BC' := Lib.hid (BC.out.up hb)
  clear BC
  have BC := BC'
  clear BC'
  have HB' := Lib.hid (HB.out.trans (hb.mono HB.out.size))
  clear HB
  have HB := HB'
  clear HB'
  clear hb
  have Lf := Lib.hid hLf
  clear hLf
  go_wp2_with fail
  refine (nAdd FA.out BC.out (by have := M0.out; have := M1.out; have := M2.out; have := M3.out; have := M4.out; have := M5.out; have := M6.out; have := M7.out; have := M8.out; have := M9.out; have := M10.out; have := M11.out; have := X1.out; have := X2.out; have := X3.out; omega) (by have := M0.out; have := M1.out; have := M2.out; have := M3.out; have := M4.out; have := M5.out; have := M6.out; have := M7.out; have := M8.out; have := M9.out; have := M10.out; have := M11.out; have := X1.out; have := X2.out; have := X3.out; omega) (by have := M0.out; have := M1.out; have := M2.out; have := M3.out; have := M4.out; have := M5.out; have := M6.out; have := M7.out; have := M8.out; have := M9.out; have := M10.out; have := M11.out; have := X1.out; have := X2.out; have := X3.out; omega)).mono ?_
  rintro e w7 ⟨vRt, he, hRt, hb⟩
  subst he
  have FA' := Lib.hid (FA.out.up hb)
  clear FA
  have FA := FA'
  clear FA'
  have FB' := Lib.hid (FB.out.up hb)
  clear FB
  have FB := FB'
  clear FB'
  have FC' := Lib.hid (FC.out.up hb)
  clear FC
  have FC := FC'
  clear FC'
  have AB' := Lib.hid (AB.out.up hb)
  clear AB
  have AB := AB'
  clear AB'
  have BC' := Lib.hid (BC.out.up hb)
  clear BC
  have BC := BC'
  clear BC'
  have Lf' := Lib.hid (Lf.out.up hb)
  clear Lf
  have Lf := Lf'
  clear Lf'
  have HB' := Lib.hid (HB.out.trans (hb.mono HB.out.size))
  clear HB
  have HB := HB'
  clear HB'
  clear hb
  have Rt := Lib.hid hRt
  clear hRt
  go_wp2_with fail
  refine (nSub AB.out FB.out (by have := M0.out; have := M1.out; have := M2.out; have := M3.out; have := M4.out; have := M5.out; have := M6.out; have := M7.out; have := M8.out; have := M9.out; have := M10.out; have := M11.out; have := X1.out; have := X2.out; have := X3.out; omega) (by have := M0.out; have := M1.out; have := M2.out; have := M3.out; have := M4.out; have := M5.out; have := M6.out; have := M7.out; have := M8.out; have := M9.out; have := M10.out; have := M11.out; have := X1.out; have := X2.out; have := X3.out; omega) (Nat.le_add_left _ _)).mono ?_
  rintro e w8 ⟨vBk, he, hBk, hb⟩
  subst he
  have FA' := Lib.hid (FA.out.up hb)
  clear FA
  have FA := FA'
  clear FA'
  have FB' := Lib.hid (FB.out.up hb)
  clear FB
  have FB := FB'
  clear FB'
  have FC' := Lib.hid (FC.out.up hb)
  clear FC
  have FC := FC'
  clear FC'
  have AB' := Lib.hid (AB.out.up hb)
  clear AB
  have AB := AB'
  clear AB'
  have BC' := Lib.hid (BC.out.up hb)
  clear BC
  have BC := BC'
  clear BC'
  have Lf' := Lib.hid (Lf.out.up hb)
  clear Lf
  have Lf := Lf'
  clear Lf'
  have Rt' := Lib.hid (Rt.out.up hb)
  clear Rt
  have Rt := Rt'
  clear Rt'
  have HB' := Lib.hid (HB.out.trans (hb.mono HB.out.size))
  clear HB
  have HB := HB'
  clear HB'
  clear hb
  have Bk := Lib.hid hBk
  clear hBk
  go_wp2_with fail
  rw [← Nat.add_assoc] at Rt
  rw [Nat.add_sub_cancel] at Bk
  refine (aw_same _ _ _ _ Lf.out Rt.out).mono ?_
  rintro e w9 ⟨he, hb⟩
  subst he
  have FA' := Lib.hid (FA.out.up hb)
  clear FA
  have FA := FA'
  clear FA'
  have FB' := Lib.hid (FB.out.up hb)
  clear FB
  have FB := FB'
  clear FB'
  have FC' := Lib.hid (FC.out.up hb)
  clear FC
  have FC := FC'
  clear FC'
  have AB' := Lib.hid (AB.out.up hb)
  clear AB
  have AB := AB'
  clear AB'
  have BC' := Lib.hid (BC.out.up hb)
  clear BC
  have BC := BC'
  clear BC'
  have Lf' := Lib.hid (Lf.out.up hb)
  clear Lf
  have Lf := Lf'
  clear Lf'
  have Rt' := Lib.hid (Rt.out.up hb)
  clear Rt
  have Rt := Rt'
  clear Rt'
  have Bk' := Lib.hid (Bk.out.up hb)
  clear Bk
  have Bk := Bk'
  clear Bk'
  have HB' := Lib.hid (HB.out.trans (hb.mono HB.out.size))
  clear HB
  have HB := HB'
  clear HB'
  clear hb
  go_wp2_with fail
  refine (aw_same _ _ _ _ Bk.out FA.out).mono ?_
  rintro e w10 ⟨he, hb⟩
  subst he
  have FA' := Lib.hid (FA.out.up hb)
  clear FA
  have FA := FA'
  clear FA'
  have FB' := Lib.hid (FB.out.up hb)
  clear FB
  have FB := FB'
  clear FB'
  have FC' := Lib.hid (FC.out.up hb)
  clear FC
  have FC := FC'
  clear FC'
  have AB' := Lib.hid (AB.out.up hb)
  clear AB
  have AB := AB'
  clear AB'
  have BC' := Lib.hid (BC.out.up hb)
  clear BC
  have BC := BC'
  clear BC'
  have Lf' := Lib.hid (Lf.out.up hb)
  clear Lf
  have Lf := Lf'
  clear Lf'
  have Rt' := Lib.hid (Rt.out.up hb)
  clear Rt
  have Rt := Rt'
  clear Rt'
  have Bk' := Lib.hid (Bk.out.up hb)
  clear Bk
  have Bk := Bk'
  clear Bk'
  have HB' := Lib.hid (HB.out.trans (hb.mono HB.out.size))
  clear HB
  have HB := HB'
  clear HB'
  clear hb
  go_wp2_with fail
  refine (nMul FA.out FB.out (by have := M0.out; have := M1.out; have := M2.out; have := M3.out; have := M4.out; have := M5.out; have := M6.out; have := M7.out; have := M8.out; have := M9.out; have := M10.out; have := M11.out; have := X1.out; have := X2.out; have := X3.out; omega) (by have := M0.out; have := M1.out; have := M2.out; have := M3.out; have := M4.out; have := M5.out; have := M6.out; have := M7.out; have := M8.out; have := M9.out; have := M10.out; have := M11.out; have := X1.out; have := X2.out; have := X3.out; omega) (by have := M0.out; have := M1.out; have := M2.out; have := M3.out; have := M4.out; have := M5.out; have := M6.out; have := M7.out; have := M8.out; have := M9.out; have := M10.out; have := M11.out; have := X1.out; have := X2.out; have := X3.out; omega)).mono ?_
  rintro e w11 ⟨vX, he, hX, hb⟩
  subst he
  have FA' := Lib.hid (FA.out.up hb)
  clear FA
  have FA := FA'
  clear FA'
  have FB' := Lib.hid (FB.out.up hb)
  clear FB
  have FB := FB'
  clear FB'
  have FC' := Lib.hid (FC.out.up hb)
  clear FC
  have FC := FC'
  clear FC'
  have AB' := Lib.hid (AB.out.up hb)
  clear AB
  have AB := AB'
  clear AB'
  have BC' := Lib.hid (BC.out.up hb)
  clear BC
  have BC := BC'
  clear BC'
  have Lf' := Lib.hid (Lf.out.up hb)
  clear Lf
  have Lf := Lf'
  clear Lf'
  have Rt' := Lib.hid (Rt.out.up hb)
  clear Rt
  have Rt := Rt'
  clear Rt'
  have Bk' := Lib.hid (Bk.out.up hb)
  clear Bk
  have Bk := Bk'
  clear Bk'
  have HB' := Lib.hid (HB.out.trans (hb.mono HB.out.size))
  clear HB
  have HB := HB'
  clear HB'
  clear hb
  have X := Lib.hid hX
  clear hX
  go_wp2_with fail
  refine (nMul FB.out FA.out (by have := M0.out; have := M1.out; have := M2.out; have := M3.out; have := M4.out; have := M5.out; have := M6.out; have := M7.out; have := M8.out; have := M9.out; have := M10.out; have := M11.out; have := X1.out; have := X2.out; have := X3.out; omega) (by have := M0.out; have := M1.out; have := M2.out; have := M3.out; have := M4.out; have := M5.out; have := M6.out; have := M7.out; have := M8.out; have := M9.out; have := M10.out; have := M11.out; have := X1.out; have := X2.out; have := X3.out; omega) (by have := M0.out; have := M1.out; have := M2.out; have := M3.out; have := M4.out; have := M5.out; have := M6.out; have := M7.out; have := M8.out; have := M9.out; have := M10.out; have := M11.out; have := X1.out; have := X2.out; have := X3.out; omega)).mono ?_
  rintro e w12 ⟨vY, he, hY, hb⟩
  subst he
  have FA' := Lib.hid (FA.out.up hb)
  clear FA
  have FA := FA'
  clear FA'
  have FB' := Lib.hid (FB.out.up hb)
  clear FB
  have FB := FB'
  clear FB'
  have FC' := Lib.hid (FC.out.up hb)
  clear FC
  have FC := FC'
  clear FC'
  have AB' := Lib.hid (AB.out.up hb)
  clear AB
  have AB := AB'
  clear AB'
  have BC' := Lib.hid (BC.out.up hb)
  clear BC
  have BC := BC'
  clear BC'
  have Lf' := Lib.hid (Lf.out.up hb)
  clear Lf
  have Lf := Lf'
  clear Lf'
  have Rt' := Lib.hid (Rt.out.up hb)
  clear Rt
  have Rt := Rt'
  clear Rt'
  have Bk' := Lib.hid (Bk.out.up hb)
  clear Bk
  have Bk := Bk'
  clear Bk'
  have X' := Lib.hid (X.out.up hb)
  clear X
  have X := X'
  clear X'
  have HB' := Lib.hid (HB.out.trans (hb.mono HB.out.size))
  clear HB
  have HB := HB'
  clear HB'
  clear hb
  have Y := Lib.hid hY
  clear hY
  go_wp2_with fail
  refine (nMul FA.out BC.out (by have := M0.out; have := M1.out; have := M2.out; have := M3.out; have := M4.out; have := M5.out; have := M6.out; have := M7.out; have := M8.out; have := M9.out; have := M10.out; have := M11.out; have := X1.out; have := X2.out; have := X3.out; omega) (by have := M0.out; have := M1.out; have := M2.out; have := M3.out; have := M4.out; have := M5.out; have := M6.out; have := M7.out; have := M8.out; have := M9.out; have := M10.out; have := M11.out; have := X1.out; have := X2.out; have := X3.out; omega) (by have := M0.out; have := M1.out; have := M2.out; have := M3.out; have := M4.out; have := M5.out; have := M6.out; have := M7.out; have := M8.out; have := M9.out; have := M10.out; have := M11.out; have := X1.out; have := X2.out; have := X3.out; omega)).mono ?_
  rintro e w13 ⟨vP, he, hP, hb⟩
  subst he
  have FA' := Lib.hid (FA.out.up hb)
  clear FA
  have FA := FA'
  clear FA'
  have FB' := Lib.hid (FB.out.up hb)
  clear FB
  have FB := FB'
  clear FB'
  have FC' := Lib.hid (FC.out.up hb)
  clear FC
  have FC := FC'
  clear FC'
  have AB' := Lib.hid (AB.out.up hb)
  clear AB
  have AB := AB'
  clear AB'
  have BC' := Lib.hid (BC.out.up hb)
  clear BC
  have BC := BC'
  clear BC'
  have Lf' := Lib.hid (Lf.out.up hb)
  clear Lf
  have Lf := Lf'
  clear Lf'
  have Rt' := Lib.hid (Rt.out.up hb)
  clear Rt
  have Rt := Rt'
  clear Rt'
  have Bk' := Lib.hid (Bk.out.up hb)
  clear Bk
  have Bk := Bk'
  clear Bk'
  have X' := Lib.hid (X.out.up hb)
  clear X
  have X := X'
  clear X'
  have Y' := Lib.hid (Y.out.up hb)
  clear Y
  have Y := Y'
  clear Y'
  have HB' := Lib.hid (HB.out.trans (hb.mono HB.out.size))
  clear HB
  have HB := HB'
  clear HB'
  clear hb
  have P := Lib.hid hP
  clear hP
  go_wp2_with fail
  refine (nMul FA.out FC.out (by have := M0.out; have := M1.out; have := M2.out; have := M3.out; have := M4.out; have := M5.out; have := M6.out; have := M7.out; have := M8.out; have := M9.out; have := M10.out; have := M11.out; have := X1.out; have := X2.out; have := X3.out; omega) (by have := M0.out; have := M1.out; have := M2.out; have := M3.out; have := M4.out; have := M5.out; have := M6.out; have := M7.out; have := M8.out; have := M9.out; have := M10.out; have := M11.out; have := X1.out; have := X2.out; have := X3.out; omega) (by have := M0.out; have := M1.out; have := M2.out; have := M3.out; have := M4.out; have := M5.out; have := M6.out; have := M7.out; have := M8.out; have := M9.out; have := M10.out; have := M11.out; have := X1.out; have := X2.out; have := X3.out; omega)).mono ?_
  rintro e w14 ⟨vZ, he, hZ, hb⟩
  subst he
  have FA' := Lib.hid (FA.out.up hb)
  clear FA
  have FA := FA'
  clear FA'
  have FB' := Lib.hid (FB.out.up hb)
  clear FB
  have FB := FB'
  clear FB'
  have FC' := Lib.hid (FC.out.up hb)
  clear FC
  have FC := FC'
  clear FC'
  have AB' := Lib.hid (AB.out.up hb)
  clear AB
  have AB := AB'
  clear AB'
  have BC' := Lib.hid (BC.out.up hb)
  clear BC
  have BC := BC'
  clear BC'
  have Lf' := Lib.hid (Lf.out.up hb)
  clear Lf
  have Lf := Lf'
  clear Lf'
  have Rt' := Lib.hid (Rt.out.up hb)
  clear Rt
  have Rt := Rt'
  clear Rt'
  have Bk' := Lib.hid (Bk.out.up hb)
  clear Bk
  have Bk := Bk'
  clear Bk'
  have X' := Lib.hid (X.out.up hb)
  clear X
  have X := X'
  clear X'
  have Y' := Lib.hid (Y.out.up hb)
  clear Y
  have Y := Y'
  clear Y'
  have P' := Lib.hid (P.out.up hb)
  clear P
  have P := P'
  clear P'
  have HB' := Lib.hid (HB.out.trans (hb.mono HB.out.size))
  clear HB
  have HB := HB'
  clear HB'
  clear hb
  have Z := Lib.hid hZ
  clear hZ
  go_wp2_with fail
  refine (nAdd X.out Z.out (by have := M0.out; have := M1.out; have := M2.out; have := M3.out; have := M4.out; have := M5.out; have := M6.out; have := M7.out; have := M8.out; have := M9.out; have := M10.out; have := M11.out; have := X1.out; have := X2.out; have := X3.out; omega) (by have := M0.out; have := M1.out; have := M2.out; have := M3.out; have := M4.out; have := M5.out; have := M6.out; have := M7.out; have := M8.out; have := M9.out; have := M10.out; have := M11.out; have := X1.out; have := X2.out; have := X3.out; omega) (by have := M0.out; have := M1.out; have := M2.out; have := M3.out; have := M4.out; have := M5.out; have := M6.out; have := M7.out; have := M8.out; have := M9.out; have := M10.out; have := M11.out; have := X1.out; have := X2.out; have := X3.out; omega)).mono ?_
  rintro e w15 ⟨vQ, he, hQ, hb⟩
  subst he
  have FA' := Lib.hid (FA.out.up hb)
  clear FA
  have FA := FA'
  clear FA'
  have FB' := Lib.hid (FB.out.up hb)
  clear FB
  have FB := FB'
  clear FB'
  have FC' := Lib.hid (FC.out.up hb)
  clear FC
  have FC := FC'
  clear FC'
  have AB' := Lib.hid (AB.out.up hb)
  clear AB
  have AB := AB'
  clear AB'
  have BC' := Lib.hid (BC.out.up hb)
  clear BC
  have BC := BC'
  clear BC'
  have Lf' := Lib.hid (Lf.out.up hb)
  clear Lf
  have Lf := Lf'
  clear Lf'
  have Rt' := Lib.hid (Rt.out.up hb)
  clear Rt
  have Rt := Rt'
  clear Rt'
  have Bk' := Lib.hid (Bk.out.up hb)
  clear Bk
  have Bk := Bk'
  clear Bk'
  have X' := Lib.hid (X.out.up hb)
  clear X
  have X := X'
  clear X'
  have Y' := Lib.hid (Y.out.up hb)
  clear Y
  have Y := Y'
  clear Y'
  have P' := Lib.hid (P.out.up hb)
  clear P
  have P := P'
  clear P'
  have Z' := Lib.hid (Z.out.up hb)
  clear Z
  have Z := Z'
  clear Z'
  have HB' := Lib.hid (HB.out.trans (hb.mono HB.out.size))
  clear HB
  have HB := HB'
  clear HB'
  clear hb
  have Q := Lib.hid hQ
  clear hQ
  go_wp2_with fail
  rw [Nat.mul_comm b a] at Y
  rw [← Nat.mul_add] at Q
  refine (aw_same _ _ _ _ X.out Y.out).mono ?_
  rintro e w16 ⟨he, hb⟩
  subst he
  have FA' := Lib.hid (FA.out.up hb)
  clear FA
  have FA := FA'
  clear FA'
  have FB' := Lib.hid (FB.out.up hb)
  clear FB
  have FB := FB'
  clear FB'
  have FC' := Lib.hid (FC.out.up hb)
  clear FC
  have FC := FC'
  clear FC'
  have AB' := Lib.hid (AB.out.up hb)
  clear AB
  have AB := AB'
  clear AB'
  have BC' := Lib.hid (BC.out.up hb)
  clear BC
  have BC := BC'
  clear BC'
  have Lf' := Lib.hid (Lf.out.up hb)
  clear Lf
  have Lf := Lf'
  clear Lf'
  have Rt' := Lib.hid (Rt.out.up hb)
  clear Rt
  have Rt := Rt'
  clear Rt'
  have Bk' := Lib.hid (Bk.out.up hb)
  clear Bk
  have Bk := Bk'
  clear Bk'
  have X' := Lib.hid (X.out.up hb)
  clear X
  have X := X'
  clear X'
  have Y' := Lib.hid (Y.out.up hb)
  clear Y
  have Y := Y'
  clear Y'
  have P' := Lib.hid (P.out.up hb)
  clear P
  have P := P'
  clear P'
  have Z' := Lib.hid (Z.out.up hb)
  clear Z
  have Z := Z'
  clear Z'
  have Q' := Lib.hid (Q.out.up hb)
  clear Q
  have Q := Q'
  clear Q'
  have HB' := Lib.hid (HB.out.trans (hb.mono HB.out.size))
  clear HB
  have HB := HB'
  clear HB'
  clear hb
  go_wp2_with fail
  refine (aw_same _ _ _ _ P.out Q.out).mono ?_
  rintro e w17 ⟨he, hb⟩
  subst he
  have FA' := Lib.hid (FA.out.up hb)
  clear FA
  have FA := FA'
  clear FA'
  have FB' := Lib.hid (FB.out.up hb)
  clear FB
  have FB := FB'
  clear FB'
  have FC' := Lib.hid (FC.out.up hb)
  clear FC
  have FC := FC'
  clear FC'
  have AB' := Lib.hid (AB.out.up hb)
  clear AB
  have AB := AB'
  clear AB'
  have BC' := Lib.hid (BC.out.up hb)
  clear BC
  have BC := BC'
  clear BC'
  have Lf' := Lib.hid (Lf.out.up hb)
  clear Lf
  have Lf := Lf'
  clear Lf'
  have Rt' := Lib.hid (Rt.out.up hb)
  clear Rt
  have Rt := Rt'
  clear Rt'
  have Bk' := Lib.hid (Bk.out.up hb)
  clear Bk
  have Bk := Bk'
  clear Bk'
  have X' := Lib.hid (X.out.up hb)
  clear X
  have X := X'
  clear X'
  have Y' := Lib.hid (Y.out.up hb)
  clear Y
  have Y := Y'
  clear Y'
  have P' := Lib.hid (P.out.up hb)
  clear P
  have P := P'
  clear P'
  have Z' := Lib.hid (Z.out.up hb)
  clear Z
  have Z := Z'
  clear Z'
  have Q' := Lib.hid (Q.out.up hb)
  clear Q
  have Q := Q'
  clear Q'
  have HB' := Lib.hid (HB.out.trans (hb.mono HB.out.size))
  clear HB
  have HB := HB'
  clear HB'
  clear hb
  go_wp2_with fail
  refine (nMul X.out FC.out (by have := M0.out; have := M1.out; have := M2.out; have := M3.out; have := M4.out; have := M5.out; have := M6.out; have := M7.out; have := M8.out; have := M9.out; have := M10.out; have := M11.out; have := X1.out; have := X2.out; have := X3.out; omega) (by have := M0.out; have := M1.out; have := M2.out; have := M3.out; have := M4.out; have := M5.out; have := M6.out; have := M7.out; have := M8.out; have := M9.out; have := M10.out; have := M11.out; have := X1.out; have := X2.out; have := X3.out; omega) (by have := M0.out; have := M1.out; have := M2.out; have := M3.out; have := M4.out; have := M5.out; have := M6.out; have := M7.out; have := M8.out; have := M9.out; have := M10.out; have := M11.out; have := X1.out; have := X2.out; have := X3.out; omega)).mono ?_
  rintro e w18 ⟨vL2, he, hL2, hb⟩
  subst he
  have FA' := Lib.hid (FA.out.up hb)
  clear FA
  have FA := FA'
  clear FA'
  have FB' := Lib.hid (FB.out.up hb)
  clear FB
  have FB := FB'
  clear FB'
  have FC' := Lib.hid (FC.out.up hb)
  clear FC
  have FC := FC'
  clear FC'
  have AB' := Lib.hid (AB.out.up hb)
  clear AB
  have AB := AB'
  clear AB'
  have BC' := Lib.hid (BC.out.up hb)
  clear BC
  have BC := BC'
  clear BC'
  have Lf' := Lib.hid (Lf.out.up hb)
  clear Lf
  have Lf := Lf'
  clear Lf'
  have Rt' := Lib.hid (Rt.out.up hb)
  clear Rt
  have Rt := Rt'
  clear Rt'
  have Bk' := Lib.hid (Bk.out.up hb)
  clear Bk
  have Bk := Bk'
  clear Bk'
  have X' := Lib.hid (X.out.up hb)
  clear X
  have X := X'
  clear X'
  have Y' := Lib.hid (Y.out.up hb)
  clear Y
  have Y := Y'
  clear Y'
  have P' := Lib.hid (P.out.up hb)
  clear P
  have P := P'
  clear P'
  have Z' := Lib.hid (Z.out.up hb)
  clear Z
  have Z := Z'
  clear Z'
  have Q' := Lib.hid (Q.out.up hb)
  clear Q
  have Q := Q'
  clear Q'
  have HB' := Lib.hid (HB.out.trans (hb.mono HB.out.size))
  clear HB
  have HB := HB'
  clear HB'
  clear hb
  have L2 := Lib.hid hL2
  clear hL2
  go_wp2_with fail
  refine (nMul FC.out FB.out (by have := M0.out; have := M1.out; have := M2.out; have := M3.out; have := M4.out; have := M5.out; have := M6.out; have := M7.out; have := M8.out; have := M9.out; have := M10.out; have := M11.out; have := X1.out; have := X2.out; have := X3.out; omega) (by have := M0.out; have := M1.out; have := M2.out; have := M3.out; have := M4.out; have := M5.out; have := M6.out; have := M7.out; have := M8.out; have := M9.out; have := M10.out; have := M11.out; have := X1.out; have := X2.out; have := X3.out; omega) (by have := M0.out; have := M1.out; have := M2.out; have := M3.out; have := M4.out; have := M5.out; have := M6.out; have := M7.out; have := M8.out; have := M9.out; have := M10.out; have := M11.out; have := X1.out; have := X2.out; have := X3.out; omega)).mono ?_
  rintro e w19 ⟨vCB, he, hCB, hb⟩
  subst he
  have FA' := Lib.hid (FA.out.up hb)
  clear FA
  have FA := FA'
  clear FA'
  have FB' := Lib.hid (FB.out.up hb)
  clear FB
  have FB := FB'
  clear FB'
  have FC' := Lib.hid (FC.out.up hb)
  clear FC
  have FC := FC'
  clear FC'
  have AB' := Lib.hid (AB.out.up hb)
  clear AB
  have AB := AB'
  clear AB'
  have BC' := Lib.hid (BC.out.up hb)
  clear BC
  have BC := BC'
  clear BC'
  have Lf' := Lib.hid (Lf.out.up hb)
  clear Lf
  have Lf := Lf'
  clear Lf'
  have Rt' := Lib.hid (Rt.out.up hb)
  clear Rt
  have Rt := Rt'
  clear Rt'
  have Bk' := Lib.hid (Bk.out.up hb)
  clear Bk
  have Bk := Bk'
  clear Bk'
  have X' := Lib.hid (X.out.up hb)
  clear X
  have X := X'
  clear X'
  have Y' := Lib.hid (Y.out.up hb)
  clear Y
  have Y := Y'
  clear Y'
  have P' := Lib.hid (P.out.up hb)
  clear P
  have P := P'
  clear P'
  have Z' := Lib.hid (Z.out.up hb)
  clear Z
  have Z := Z'
  clear Z'
  have Q' := Lib.hid (Q.out.up hb)
  clear Q
  have Q := Q'
  clear Q'
  have L2' := Lib.hid (L2.out.up hb)
  clear L2
  have L2 := L2'
  clear L2'
  have HB' := Lib.hid (HB.out.trans (hb.mono HB.out.size))
  clear HB
  have HB := HB'
  clear HB'
  clear hb
  have CB := Lib.hid hCB
  clear hCB
  go_wp2_with fail
  refine (nMul FA.out CB.out (by have := M0.out; have := M1.out; have := M2.out; have := M3.out; have := M4.out; have := M5.out; have := M6.out; have := M7.out; have := M8.out; have := M9.out; have := M10.out; have := M11.out; have := X1.out; have := X2.out; have := X3.out; omega) (by have := M0.out; have := M1.out; have := M2.out; have := M3.out; have := M4.out; have := M5.out; have := M6.out; have := M7.out; have := M8.out; have := M9.out; have := M10.out; have := M11.out; have := X1.out; have := X2.out; have := X3.out; omega) (by have := M0.out; have := M1.out; have := M2.out; have := M3.out; have := M4.out; have := M5.out; have := M6.out; have := M7.out; have := M8.out; have := M9.out; have := M10.out; have := M11.out; have := X1.out; have := X2.out; have := X3.out; omega)).mono ?_
  rintro e w20 ⟨vR2, he, hR2, hb⟩
  subst he
  have FA' := Lib.hid (FA.out.up hb)
  clear FA
  have FA := FA'
  clear FA'
  have FB' := Lib.hid (FB.out.up hb)
  clear FB
  have FB := FB'
  clear FB'
  have FC' := Lib.hid (FC.out.up hb)
  clear FC
  have FC := FC'
  clear FC'
  have AB' := Lib.hid (AB.out.up hb)
  clear AB
  have AB := AB'
  clear AB'
  have BC' := Lib.hid (BC.out.up hb)
  clear BC
  have BC := BC'
  clear BC'
  have Lf' := Lib.hid (Lf.out.up hb)
  clear Lf
  have Lf := Lf'
  clear Lf'
  have Rt' := Lib.hid (Rt.out.up hb)
  clear Rt
  have Rt := Rt'
  clear Rt'
  have Bk' := Lib.hid (Bk.out.up hb)
  clear Bk
  have Bk := Bk'
  clear Bk'
  have X' := Lib.hid (X.out.up hb)
  clear X
  have X := X'
  clear X'
  have Y' := Lib.hid (Y.out.up hb)
  clear Y
  have Y := Y'
  clear Y'
  have P' := Lib.hid (P.out.up hb)
  clear P
  have P := P'
  clear P'
  have Z' := Lib.hid (Z.out.up hb)
  clear Z
  have Z := Z'
  clear Z'
  have Q' := Lib.hid (Q.out.up hb)
  clear Q
  have Q := Q'
  clear Q'
  have L2' := Lib.hid (L2.out.up hb)
  clear L2
  have L2 := L2'
  clear L2'
  have CB' := Lib.hid (CB.out.up hb)
  clear CB
  have CB := CB'
  clear CB'
  have HB' := Lib.hid (HB.out.trans (hb.mono HB.out.size))
  clear HB
  have HB := HB'
  clear HB'
  clear hb
  have R2 := Lib.hid hR2
  clear hR2
  go_wp2_with fail
  rw [Nat.mul_comm c b, ← Nat.mul_assoc] at R2
  refine (aw_same _ _ _ _ L2.out R2.out).mono ?_
  rintro e w21 ⟨he, hb⟩
  subst he
  have FA' := Lib.hid (FA.out.up hb)
  clear FA
  have FA := FA'
  clear FA'
  have FB' := Lib.hid (FB.out.up hb)
  clear FB
  have FB := FB'
  clear FB'
  have FC' := Lib.hid (FC.out.up hb)
  clear FC
  have FC := FC'
  clear FC'
  have AB' := Lib.hid (AB.out.up hb)
  clear AB
  have AB := AB'
  clear AB'
  have BC' := Lib.hid (BC.out.up hb)
  clear BC
  have BC := BC'
  clear BC'
  have Lf' := Lib.hid (Lf.out.up hb)
  clear Lf
  have Lf := Lf'
  clear Lf'
  have Rt' := Lib.hid (Rt.out.up hb)
  clear Rt
  have Rt := Rt'
  clear Rt'
  have Bk' := Lib.hid (Bk.out.up hb)
  clear Bk
  have Bk := Bk'
  clear Bk'
  have X' := Lib.hid (X.out.up hb)
  clear X
  have X := X'
  clear X'
  have Y' := Lib.hid (Y.out.up hb)
  clear Y
  have Y := Y'
  clear Y'
  have P' := Lib.hid (P.out.up hb)
  clear P
  have P := P'
  clear P'
  have Z' := Lib.hid (Z.out.up hb)
  clear Z
  have Z := Z'
  clear Z'
  have Q' := Lib.hid (Q.out.up hb)
  clear Q
  have Q := Q'
  clear Q'
  have L2' := Lib.hid (L2.out.up hb)
  clear L2
  have L2 := L2'
  clear L2'
  have CB' := Lib.hid (CB.out.up hb)
  clear CB
  have CB := CB'
  clear CB'
  have R2' := Lib.hid (R2.out.up hb)
  clear R2
  have R2 := R2'
  clear R2'
  have HB' := Lib.hid (HB.out.trans (hb.mono HB.out.size))
  clear HB
  have HB := HB'
  clear HB'
  clear hb
  go_wp2_with fail
  refine (divides_any _ _ _ _ (a * b) b c _ X.out FB.out FC.out (by have := M0.out; have := M1.out; have := M2.out; have := M3.out; have := M4.out; have := M5.out; have := M6.out; have := M7.out; have := M8.out; have := M9.out; have := M10.out; have := M11.out; have := X1.out; have := X2.out; have := X3.out; omega) (by have := M0.out; have := M1.out; have := M2.out; have := M3.out; have := M4.out; have := M5.out; have := M6.out; have := M7.out; have := M8.out; have := M9.out; have := M10.out; have := M11.out; have := X1.out; have := X2.out; have := X3.out; omega) (by have := M0.out; have := M1.out; have := M2.out; have := M3.out; have := M4.out; have := M5.out; have := M6.out; have := M7.out; have := M8.out; have := M9.out; have := M10.out; have := M11.out; have := X1.out; have := X2.out; have := X3.out; omega)).mono ?_
  rintro e w22 ⟨he, hb⟩
  subst he
  have FA' := Lib.hid (FA.out.up hb)
  clear FA
  have FA := FA'
  clear FA'
  have FB' := Lib.hid (FB.out.up hb)
  clear FB
  have FB := FB'
  clear FB'
  have FC' := Lib.hid (FC.out.up hb)
  clear FC
  have FC := FC'
  clear FC'
  have AB' := Lib.hid (AB.out.up hb)
  clear AB
  have AB := AB'
  clear AB'
  have BC' := Lib.hid (BC.out.up hb)
  clear BC
  have BC := BC'
  clear BC'
  have Lf' := Lib.hid (Lf.out.up hb)
  clear Lf
  have Lf := Lf'
  clear Lf'
  have Rt' := Lib.hid (Rt.out.up hb)
  clear Rt
  have Rt := Rt'
  clear Rt'
  have Bk' := Lib.hid (Bk.out.up hb)
  clear Bk
  have Bk := Bk'
  clear Bk'
  have X' := Lib.hid (X.out.up hb)
  clear X
  have X := X'
  clear X'
  have Y' := Lib.hid (Y.out.up hb)
  clear Y
  have Y := Y'
  clear Y'
  have P' := Lib.hid (P.out.up hb)
  clear P
  have P := P'
  clear P'
  have Z' := Lib.hid (Z.out.up hb)
  clear Z
  have Z := Z'
  clear Z'
  have Q' := Lib.hid (Q.out.up hb)
  clear Q
  have Q := Q'
  clear Q'
  have L2' := Lib.hid (L2.out.up hb)
  clear L2
  have L2 := L2'
  clear L2'
  have CB' := Lib.hid (CB.out.up hb)
  clear CB
  have CB := CB'
  clear CB'
  have R2' := Lib.hid (R2.out.up hb)
  clear R2
  have R2 := R2'
  clear R2'
  have HB' := Lib.hid (HB.out.trans (hb.mono HB.out.size))
  clear HB
  have HB := HB'
  clear HB'
  clear hb
  go_wp2_with fail
  refine (awake_any _ (HT.out.below HB.out)).mono ?_
  rintro e w23 ⟨he, hb⟩
  subst he
  go_wp2_with fail
  go_ret
  exact ⟨rfl, HB.out.trans (hb.mono HB.out.size)⟩
end Go.Proofs.YtlababdfdjjjaaaGreatDoor
