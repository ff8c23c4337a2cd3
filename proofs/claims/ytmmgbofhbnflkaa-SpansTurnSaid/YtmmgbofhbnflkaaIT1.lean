import Derived.Test.YtmmgbofhbnflkaaIL4
import Derived.Test.YtmmgbofhbnflkaaIT0
namespace Go.Proofs.Ytmmgbofhbnflkaa
open Go.RowKit

set_option maxRecDepth 100000 in
set_option maxHeartbeats 1000000 in
theorem turn_walk (l0 l1 m0 m1 u v k a1 a2 x r1 r2 deg c1 c2 ee s1 s2 d1 d2 q1 q2 t1 t2 f1 f2 : Int) (w : World)
    (HA : ∀ w, Calls Try.prog 37 #[.agg #[.int .i32 l0, .int .i32 l1], .int .u32 u] w fun e w' => e = .returned (.tuple #[.agg #[.int .i64 a1, .int .i64 a2], .int .i64 x]) ∧ Below w.heap.size w w')
    (HP : ∀ w, Calls Try.prog 23 #[.agg #[.int .i64 r1, .int .i64 r2], .int .i64 deg] w fun e w' => e = .returned (.tuple #[.agg #[.int .i64 c1, .int .i64 c2], .int .i64 ee]) ∧ Below w.heap.size w w')
    (HR : ee = 0 → ∀ w, Calls Try.prog 25 #[.agg #[.int .i64 c1, .int .i64 c2], .int .i64 deg] w fun e w' => e = .returned (.tuple #[.agg #[.int .i64 r1, .int .i64 r2], .int .i64 0]) ∧ Below w.heap.size w w')
    (HD : ∀ w, Calls Try.prog 29 #[.agg #[.int .i64 s1, .int .i64 s2]] w fun e w' => e = .returned (.tuple #[.agg #[.int .i64 d1, .int .i64 d2], .int .i64 0]) ∧ Below w.heap.size w w')
    (HM : ∀ w, Calls Try.prog 16 #[.agg #[.int .i64 s1, .int .i64 s2], .agg #[.int .i64 s1, .int .i64 s2]] w fun e w' => e = .returned (.tuple #[.agg #[.int .i64 q1, .int .i64 q2], .int .i64 0]) ∧ Below w.heap.size w w')
    (HI : ∀ w, Calls Try.prog 27 #[.agg #[.int .i64 q1, .int .i64 q2]] w fun e w' => e = .returned (.tuple #[.agg #[.int .i64 t1, .int .i64 t2], .int .i64 0]) ∧ Below w.heap.size w w')
    (HS : ∀ w, Calls Try.prog 21 #[.agg #[.int .i64 d1, .int .i64 d2], .int .i64 4, .int .i64 1] w fun e w' => e = .returned (.tuple #[.agg #[.int .i64 f1, .int .i64 f2], .int .i64 0]) ∧ Below w.heap.size w w')
    (hk : 0 ≤ k ∧ k ≤ 255) (hdeg : deg = 1 + k % 62) (hr1 : max a1 0 = r1) (hr2 : max a2 0 = r2) (hb1 : 0 ≤ r1 ∧ r1 ≤ 2147483648) (hb2 : 0 ≤ r2 ∧ r2 ≤ 2147483648) (hs1 : s1 = r1 % 1000000) (hs2 : s2 = r1 % 1000000 + r2 % 1000000)
    (he : (ee = 7 ∧ 3 ≤ deg) ∨ ee = 0) (hf1 : -1000000000000000000 ≤ f1 ∧ f1 ≤ 1000000000000000000) (ht2 : -1000000000000000000 ≤ t2 ∧ t2 ≤ 1000000000000000000)
    (g1 : f1 ≤ t1) (g2 : t1 < f1 + 4) (g3 : t2 - 4 ≤ f2) (g4 : f2 < t2 + 4) :
    Calls Try.prog 9 #[.agg #[.int .i32 l0, .int .i32 l1, .int .i32 m0, .int .i32 m1, .int .u32 u, .int .u32 v], .int .u8 k] w fun e w' => e = .returned (.bool true) ∧ Below w.heap.size w w' := by
  have j0 : wrap64 k = k := wrap64_of (by unfold I64; omega)
  have j1 : k.tmod 62 = k % 62 := Int.tmod_eq_emod_of_nonneg hk.1
  have j2 : wrap64 (1 + k % 62) = 1 + k % 62 := wrap64_of (by unfold I64; omega)
  have HDEG := Lib.hid hdeg
  have j3 : r1.tmod 1000000 = s1 := by rw [hs1]; exact Int.tmod_eq_emod_of_nonneg hb1.1
  have j4 : r2.tmod 1000000 = r2 % 1000000 := Int.tmod_eq_emod_of_nonneg hb2.1
  have j5 : wrap64 (s1 + r2 % 1000000) = s2 := by rw [hs2, hs1]; exact wrap64_of (by unfold I64; omega)
  have j6 : wrap64 (f1 + 4) = f1 + 4 := wrap64_of (by unfold I64; omega)
  have j7 : wrap64 (t2 - 4) = t2 - 4 := wrap64_of (by unfold I64; omega)
  have j8 : wrap64 (t2 + 4) = t2 + 4 := wrap64_of (by unfold I64; omega)
  have g1 := decide_eq_true g1
  have g2 := decide_eq_true g2
  have g3 := decide_eq_true g3
  have g4 := decide_eq_true g4
  clear hk hdeg hb1 hb2 hs1 hs2 hf1 ht2
  have IV := Lib.hid iv_g
  have HE := Lib.hid he
  clear he
  have HA := Lib.hid HA
  have HP := Lib.hid HP
  have HR := Lib.hid HR
  have HD := Lib.hid HD
  have HM := Lib.hid HM
  have HI := Lib.hid HI
  have HS := Lib.hid HS
  go_enter Try.func9, Try.ntmps9
  have KM := Lib.hid (Km.of (below_alloc w (.cells #[.int .i32 l0, .int .i32 l1, .int .i32 m0, .int .i32 m1, .int .u32 u, .int .u32 v] 41)))
  go_wp2_with fail
  refine (HA.out _).mono ?_
  rintro e w1 ⟨he, hb⟩
  subst he
  have K0 := (KM.out.later hb).alloc (.cells #[.int .i64 a1, .int .i64 a2] 23)
  obtain ⟨w1a, hw1a⟩ : ∃ u, w1.alloc (.cells #[.int .i64 a1, .int .i64 a2] 23) = u := ⟨_, rfl⟩
  obtain ⟨ga, hga⟩ : ∃ n, w1.heap.size = n := ⟨_, rfl⟩
  have k0 := Cell2.new w1 (.int .i64 a1) (.int .i64 a2) 23
  rw [hw1a, hga] at k0
  rw [hw1a] at K0
  have GA := Lib.hid (show w.heap.size ≤ ga by rw [← hga]; exact (KM.out.later hb).bl.size)
  have KM' := Lib.hid (K0.more k0)
  clear KM K0 k0 hb
  have KM := KM'
  clear KM'
  have lga0 := (KM.out.keep (ga, .int .i64 a1, .int .i64 a2) (by simp)).c0
  have lga1 := (KM.out.keep (ga, .int .i64 a1, .int .i64 a2) (by simp)).c1
  go_wp2_with fail
  clear hw1a hga
  refine (IV.out r1 r2 _).mono ?_
  rintro e w2 ⟨he, hb⟩
  subst he
  clear lga0 lga1
  have K0 := KM.out.later hb
  have ka := K0.k0
  have la0 := ka.c0
  have la1 := ka.c1
  have lf0 := ka.f0
  have lf1 := ka.f1
  have k1 := ka.set (.int .i64 r1) (.int .i64 r2)
  have K1 : Km w [] ((w2.setCell ⟨ga, 0, none⟩ (.int .i64 r1)).setCell ⟨ga, 1, none⟩ (.int .i64 r2)) := ⟨fun t ht => (by cases ht), (K0.bl.setCell (p := ⟨ga, 0, none⟩) GA.out _).setCell (p := ⟨ga, 1, none⟩) GA.out _⟩
  obtain ⟨wb, hwb⟩ : ∃ u, (w2.setCell ⟨ga, 0, none⟩ (.int .i64 r1)).setCell ⟨ga, 1, none⟩ (.int .i64 r2) = u := ⟨_, rfl⟩
  rw [hwb] at k1 K1
  have KM' := Lib.hid (K1.more k1)
  clear KM K0 ka k1 K1 hb
  have KM := KM'
  clear KM'
  have lga0 := (KM.out.keep (ga, .int .i64 r1, .int .i64 r2) (by simp)).c0
  have lga1 := (KM.out.keep (ga, .int .i64 r1, .int .i64 r2) (by simp)).c1
  go_wp2_with fail
  clear hwb la0 la1 lf0 lf1
  rw [← HDEG.out]
  refine (HP.out _).mono ?_
  rintro e w3 ⟨he, hb⟩
  subst he
  clear lga0 lga1
  have K0 := (KM.out.later hb).alloc (.cells #[.int .i64 c1, .int .i64 c2] 23)
  obtain ⟨w3a, hw3a⟩ : ∃ u, w3.alloc (.cells #[.int .i64 c1, .int .i64 c2] 23) = u := ⟨_, rfl⟩
  obtain ⟨gc, hgc⟩ : ∃ n, w3.heap.size = n := ⟨_, rfl⟩
  have k0 := Cell2.new w3 (.int .i64 c1) (.int .i64 c2) 23
  rw [hw3a, hgc] at k0
  rw [hw3a] at K0
  have KM' := Lib.hid (K0.more k0)
  clear KM K0 k0 hb
  have KM := KM'
  clear KM'
  have lgc0 := (KM.out.keep (gc, .int .i64 c1, .int .i64 c2) (by simp)).c0
  have lgc1 := (KM.out.keep (gc, .int .i64 c1, .int .i64 c2) (by simp)).c1
  have lga0 := (KM.out.keep (ga, .int .i64 r1, .int .i64 r2) (by simp)).c0
  have lga1 := (KM.out.keep (ga, .int .i64 r1, .int .i64 r2) (by simp)).c1
  rcases HE.out with h7 | h0
  · obtain ⟨rfl, hd⟩ := h7
    have h3 : decide (deg < 3) = false := decide_eq_false (by omega)
    clear hd
    go_wp2_with fail
    clear hw3a hgc
    refine (IV.out s1 s2 _).mono ?_
    rintro e w4 ⟨he, hb⟩
    subst he
    clear lgc0 lgc1 lga0 lga1
    have K0 := (KM.out.later hb).alloc (.cells #[.int .i64 s1, .int .i64 s2] 23)
    obtain ⟨w4a, hw4a⟩ : ∃ u, w4.alloc (.cells #[.int .i64 s1, .int .i64 s2] 23) = u := ⟨_, rfl⟩
    obtain ⟨gs, hgs⟩ : ∃ n, w4.heap.size = n := ⟨_, rfl⟩
    have k0 := Cell2.new w4 (.int .i64 s1) (.int .i64 s2) 23
    rw [hw4a, hgs] at k0
    rw [hw4a] at K0
    have KM' := Lib.hid (K0.more k0)
    clear KM K0 k0 hb
    have KM := KM'
    clear KM'
    have lgs0 := (KM.out.keep (gs, .int .i64 s1, .int .i64 s2) (by simp)).c0
    have lgs1 := (KM.out.keep (gs, .int .i64 s1, .int .i64 s2) (by simp)).c1
    go_wp2_with fail
    clear hw4a hgs
    refine (HD.out _).mono ?_
    rintro e w5 ⟨he, hb⟩
    subst he
    clear lgs0 lgs1
    have K0 := (KM.out.later hb).alloc (.cells #[.int .i64 d1, .int .i64 d2] 23)
    obtain ⟨w5a, hw5a⟩ : ∃ u, w5.alloc (.cells #[.int .i64 d1, .int .i64 d2] 23) = u := ⟨_, rfl⟩
    obtain ⟨gd, hgd⟩ : ∃ n, w5.heap.size = n := ⟨_, rfl⟩
    have k0 := Cell2.new w5 (.int .i64 d1) (.int .i64 d2) 23
    rw [hw5a, hgd] at k0
    rw [hw5a] at K0
    have KM' := Lib.hid (K0.more k0)
    clear KM K0 k0 hb
    have KM := KM'
    clear KM'
    have lgs0 := (KM.out.keep (gs, .int .i64 s1, .int .i64 s2) (by simp)).c0
    have lgs1 := (KM.out.keep (gs, .int .i64 s1, .int .i64 s2) (by simp)).c1
    go_wp2_with fail
    clear hw5a hgd
    refine (HM.out _).mono ?_
    rintro e w6 ⟨he, hb⟩
    subst he
    clear lgs0 lgs1
    have K0 := (KM.out.later hb).alloc (.cells #[.int .i64 q1, .int .i64 q2] 23)
    obtain ⟨w6a, hw6a⟩ : ∃ u, w6.alloc (.cells #[.int .i64 q1, .int .i64 q2] 23) = u := ⟨_, rfl⟩
    obtain ⟨gq, hgq⟩ : ∃ n, w6.heap.size = n := ⟨_, rfl⟩
    have k0 := Cell2.new w6 (.int .i64 q1) (.int .i64 q2) 23
    rw [hw6a, hgq] at k0
    rw [hw6a] at K0
    have KM' := Lib.hid (K0.more k0)
    clear KM K0 k0 hb
    have KM := KM'
    clear KM'
    have lgq0 := (KM.out.keep (gq, .int .i64 q1, .int .i64 q2) (by simp)).c0
    have lgq1 := (KM.out.keep (gq, .int .i64 q1, .int .i64 q2) (by simp)).c1
    go_wp2_with fail
    clear hw6a hgq
    refine (HI.out _).mono ?_
    rintro e w7 ⟨he, hb⟩
    subst he
    clear lgq0 lgq1
    have K0 := (KM.out.later hb).alloc (.cells #[.int .i64 t1, .int .i64 t2] 23)
    obtain ⟨w7a, hw7a⟩ : ∃ u, w7.alloc (.cells #[.int .i64 t1, .int .i64 t2] 23) = u := ⟨_, rfl⟩
    obtain ⟨gt, hgt⟩ : ∃ n, w7.heap.size = n := ⟨_, rfl⟩
    have k0 := Cell2.new w7 (.int .i64 t1) (.int .i64 t2) 23
    rw [hw7a, hgt] at k0
    rw [hw7a] at K0
    have KM' := Lib.hid (K0.more k0)
    clear KM K0 k0 hb
    have KM := KM'
    clear KM'
    have lgd0 := (KM.out.keep (gd, .int .i64 d1, .int .i64 d2) (by simp)).c0
    have lgd1 := (KM.out.keep (gd, .int .i64 d1, .int .i64 d2) (by simp)).c1
    go_wp2_with fail
    clear hw7a hgt
    refine (HS.out _).mono ?_
    rintro e w8 ⟨he, hb⟩
    subst he
    clear lgd0 lgd1
    have K0 := (KM.out.later hb).alloc (.cells #[.int .i64 f1, .int .i64 f2] 23)
    obtain ⟨w8a, hw8a⟩ : ∃ u, w8.alloc (.cells #[.int .i64 f1, .int .i64 f2] 23) = u := ⟨_, rfl⟩
    obtain ⟨gf, hgf⟩ : ∃ n, w8.heap.size = n := ⟨_, rfl⟩
    have k0 := Cell2.new w8 (.int .i64 f1) (.int .i64 f2) 23
    rw [hw8a, hgf] at k0
    rw [hw8a] at K0
    have KM' := Lib.hid (K0.more k0)
    clear KM K0 k0 hb
    have KM := KM'
    clear KM'
    have lgf0 := (KM.out.keep (gf, .int .i64 f1, .int .i64 f2) (by simp)).c0
    have lgf1 := (KM.out.keep (gf, .int .i64 f1, .int .i64 f2) (by simp)).c1
    have lgt0 := (KM.out.keep (gt, .int .i64 t1, .int .i64 t2) (by simp)).c0
    have lgt1 := (KM.out.keep (gt, .int .i64 t1, .int .i64 t2) (by simp)).c1
    go_wp2_with fail
    clear hw8a hgf
    refine (awake_any _).mono ?_
    rintro e wz ⟨he, hb⟩
    subst he
    clear lgf0 lgf1 lgt0 lgt1
    have HZ := Lib.hid (Below.after KM.out.bl hb)
    clear KM hb
    go_wp2_with fail
    go_ret
    exact ⟨rfl, HZ.out⟩
  · subst h0
    have HR' := Lib.hid (HR.out rfl)
    clear HR
    go_wp2_with fail
    clear hw3a hgc
    refine (HR'.out _).mono ?_
    rintro e w4 ⟨he, hb⟩
    subst he
    clear lgc0 lgc1 lga0 lga1
    have K0 := (KM.out.later hb).alloc (.cells #[.int .i64 r1, .int .i64 r2] 23)
    obtain ⟨w4a, hw4a⟩ : ∃ u, w4.alloc (.cells #[.int .i64 r1, .int .i64 r2] 23) = u := ⟨_, rfl⟩
    obtain ⟨gr, hgr⟩ : ∃ n, w4.heap.size = n := ⟨_, rfl⟩
    have k0 := Cell2.new w4 (.int .i64 r1) (.int .i64 r2) 23
    rw [hw4a, hgr] at k0
    rw [hw4a] at K0
    have KM' := Lib.hid (K0.more k0)
    clear KM K0 k0 hb
    have KM := KM'
    clear KM'
    have lgr0 := (KM.out.keep (gr, .int .i64 r1, .int .i64 r2) (by simp)).c0
    have lgr1 := (KM.out.keep (gr, .int .i64 r1, .int .i64 r2) (by simp)).c1
    have lga0 := (KM.out.keep (ga, .int .i64 r1, .int .i64 r2) (by simp)).c0
    have lga1 := (KM.out.keep (ga, .int .i64 r1, .int .i64 r2) (by simp)).c1
    go_wp2_with fail
    clear hw4a hgr
    refine (IV.out s1 s2 _).mono ?_
    rintro e w5 ⟨he, hb⟩
    subst he
    clear lgr0 lgr1 lga0 lga1
    have K0 := (KM.out.later hb).alloc (.cells #[.int .i64 s1, .int .i64 s2] 23)
    obtain ⟨w5a, hw5a⟩ : ∃ u, w5.alloc (.cells #[.int .i64 s1, .int .i64 s2] 23) = u := ⟨_, rfl⟩
    obtain ⟨gs, hgs⟩ : ∃ n, w5.heap.size = n := ⟨_, rfl⟩
    have k0 := Cell2.new w5 (.int .i64 s1) (.int .i64 s2) 23
    rw [hw5a, hgs] at k0
    rw [hw5a] at K0
    have KM' := Lib.hid (K0.more k0)
    clear KM K0 k0 hb
    have KM := KM'
    clear KM'
    have lgs0 := (KM.out.keep (gs, .int .i64 s1, .int .i64 s2) (by simp)).c0
    have lgs1 := (KM.out.keep (gs, .int .i64 s1, .int .i64 s2) (by simp)).c1
    go_wp2_with fail
    clear hw5a hgs
    refine (HD.out _).mono ?_
    rintro e w6 ⟨he, hb⟩
    subst he
    clear lgs0 lgs1
    have K0 := (KM.out.later hb).alloc (.cells #[.int .i64 d1, .int .i64 d2] 23)
    obtain ⟨w6a, hw6a⟩ : ∃ u, w6.alloc (.cells #[.int .i64 d1, .int .i64 d2] 23) = u := ⟨_, rfl⟩
    obtain ⟨gd, hgd⟩ : ∃ n, w6.heap.size = n := ⟨_, rfl⟩
    have k0 := Cell2.new w6 (.int .i64 d1) (.int .i64 d2) 23
    rw [hw6a, hgd] at k0
    rw [hw6a] at K0
    have KM' := Lib.hid (K0.more k0)
    clear KM K0 k0 hb
    have KM := KM'
    clear KM'
    have lgs0 := (KM.out.keep (gs, .int .i64 s1, .int .i64 s2) (by simp)).c0
    have lgs1 := (KM.out.keep (gs, .int .i64 s1, .int .i64 s2) (by simp)).c1
    go_wp2_with fail
    clear hw6a hgd
    refine (HM.out _).mono ?_
    rintro e w7 ⟨he, hb⟩
    subst he
    clear lgs0 lgs1
    have K0 := (KM.out.later hb).alloc (.cells #[.int .i64 q1, .int .i64 q2] 23)
    obtain ⟨w7a, hw7a⟩ : ∃ u, w7.alloc (.cells #[.int .i64 q1, .int .i64 q2] 23) = u := ⟨_, rfl⟩
    obtain ⟨gq, hgq⟩ : ∃ n, w7.heap.size = n := ⟨_, rfl⟩
    have k0 := Cell2.new w7 (.int .i64 q1) (.int .i64 q2) 23
    rw [hw7a, hgq] at k0
    rw [hw7a] at K0
    have KM' := Lib.hid (K0.more k0)
    clear KM K0 k0 hb
    have KM := KM'
    clear KM'
    have lgq0 := (KM.out.keep (gq, .int .i64 q1, .int .i64 q2) (by simp)).c0
    have lgq1 := (KM.out.keep (gq, .int .i64 q1, .int .i64 q2) (by simp)).c1
    go_wp2_with fail
    clear hw7a hgq
    refine (HI.out _).mono ?_
    rintro e w8 ⟨he, hb⟩
    subst he
    clear lgq0 lgq1
    have K0 := (KM.out.later hb).alloc (.cells #[.int .i64 t1, .int .i64 t2] 23)
    obtain ⟨w8a, hw8a⟩ : ∃ u, w8.alloc (.cells #[.int .i64 t1, .int .i64 t2] 23) = u := ⟨_, rfl⟩
    obtain ⟨gt, hgt⟩ : ∃ n, w8.heap.size = n := ⟨_, rfl⟩
    have k0 := Cell2.new w8 (.int .i64 t1) (.int .i64 t2) 23
    rw [hw8a, hgt] at k0
    rw [hw8a] at K0
    have KM' := Lib.hid (K0.more k0)
    clear KM K0 k0 hb
    have KM := KM'
    clear KM'
    have lgd0 := (KM.out.keep (gd, .int .i64 d1, .int .i64 d2) (by simp)).c0
    have lgd1 := (KM.out.keep (gd, .int .i64 d1, .int .i64 d2) (by simp)).c1
    go_wp2_with fail
    clear hw8a hgt
    refine (HS.out _).mono ?_
    rintro e w9 ⟨he, hb⟩
    subst he
    clear lgd0 lgd1
    have K0 := (KM.out.later hb).alloc (.cells #[.int .i64 f1, .int .i64 f2] 23)
    obtain ⟨w9a, hw9a⟩ : ∃ u, w9.alloc (.cells #[.int .i64 f1, .int .i64 f2] 23) = u := ⟨_, rfl⟩
    obtain ⟨gf, hgf⟩ : ∃ n, w9.heap.size = n := ⟨_, rfl⟩
    have k0 := Cell2.new w9 (.int .i64 f1) (.int .i64 f2) 23
    rw [hw9a, hgf] at k0
    rw [hw9a] at K0
    have KM' := Lib.hid (K0.more k0)
    clear KM K0 k0 hb
    have KM := KM'
    clear KM'
    have lgf0 := (KM.out.keep (gf, .int .i64 f1, .int .i64 f2) (by simp)).c0
    have lgf1 := (KM.out.keep (gf, .int .i64 f1, .int .i64 f2) (by simp)).c1
    have lgt0 := (KM.out.keep (gt, .int .i64 t1, .int .i64 t2) (by simp)).c0
    have lgt1 := (KM.out.keep (gt, .int .i64 t1, .int .i64 t2) (by simp)).c1
    go_wp2_with fail
    clear hw9a hgf
    refine (awake_any _).mono ?_
    rintro e wz ⟨he, hb⟩
    subst he
    clear lgf0 lgf1 lgt0 lgt1
    have HZ := Lib.hid (Below.after KM.out.bl hb)
    clear KM hb
    go_wp2_with fail
    go_ret
    exact ⟨rfl, HZ.out⟩
end Go.Proofs.Ytmmgbofhbnflkaa
