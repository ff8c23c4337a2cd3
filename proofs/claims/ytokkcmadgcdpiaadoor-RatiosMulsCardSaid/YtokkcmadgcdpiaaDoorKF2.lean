import Derived.Test.YtokkcmadgcdpiaaDoorKR4
import Derived.Test.YtokkcmadgcdpiaaDoorKE2
namespace Go.Proofs.YtokkcmadgcdpiaaDoor
open Go.RowKit

/-! The law on Mul, Div and Pow. -/
theorem putR_other {w : World} {g k : Nat} {t : TypeId} {L : List Int} (h : RowI w g t L) (hne : g ≠ k) (x0 x1 x2 x3 x4 x5 d : Int) : RowI (putR w k x0 x1 x2 x3 x4 x5 d) g t L :=
  ((((((h.other _ hne).other _ hne).other _ hne).other _ hne).other _ hne).other _ hne).other _ hne
theorem putR_size (w : World) (k : Nat) (x0 x1 x2 x3 x4 x5 d : Int) : (putR w k x0 x1 x2 x3 x4 x5 d).heap.size = w.heap.size := by
  unfold putR
  simp only [size_setCell']
set_option maxRecDepth 100000 in
set_option maxHeartbeats 8000000 in
theorem lawMuls_any (x0 x1 x2 x3 x4 x5 xd y0 y1 y2 y3 y4 y5 yd b1 b2 : Int) (w : World) (hp : PrL w) :
    Calls Tryd.prog 6 #[.agg #[.int .i64 x0, .int .i64 x1, .int .i64 x2, .int .i64 x3, .int .i64 x4, .int .i64 x5, .int .i64 xd], .agg #[.int .i64 y0, .int .i64 y1, .int .i64 y2, .int .i64 y3, .int .i64 y4, .int .i64 y5, .int .i64 yd], .agg #[.int .i64 b1, .int .i64 b2]] w fun e w' => e = .returned (.bool true) ∧ Below w.heap.size w w' := by
  have HP := Lib.hid hp
  clear hp
  have h1 := fun W => Mul_any x0 x1 x2 x3 x4 x5 xd y0 y1 y2 y3 y4 y5 yd W
  have h2 := fun W => rMul_any x0 x1 x2 x3 x4 x5 xd y0 y1 y2 y3 y4 y5 yd W
  have h3 := fun W => Div_any x0 x1 x2 x3 x4 x5 xd y0 y1 y2 y3 y4 y5 yd W
  have h4 := fun W => rDiv_any x0 x1 x2 x3 x4 x5 xd y0 y1 y2 y3 y4 y5 yd W
  have h5 := fun W => Pow_any x0 x1 x2 x3 x4 x5 xd b1 b2 W
  have h6 := fun W => rPow_any x0 x1 x2 x3 x4 x5 xd b1 b2 W
  generalize bothW ⟨⟨x0, x1, x2, x3, x4, x5⟩, xd⟩ ⟨⟨y0, y1, y2, y3, y4, y5⟩, yd⟩ 1 = RA at *
  generalize bothW ⟨⟨x0, x1, x2, x3, x4, x5⟩, xd⟩ ⟨⟨y0, y1, y2, y3, y4, y5⟩, yd⟩ (-1) = RB at *
  generalize rpowW ⟨⟨x0, x1, x2, x3, x4, x5⟩, xd⟩ b1 b2 = RC at *
  obtain ⟨⟨⟨p0, p1, p2, p3, p4, p5⟩, pd⟩, pe⟩ := RA
  obtain ⟨⟨⟨q0, q1, q2, q3, q4, q5⟩, qd⟩, qe⟩ := RB
  obtain ⟨⟨⟨s0, s1, s2, s3, s4, s5⟩, sd⟩, se⟩ := RC
  unfold RtPost rtv at h1 h2 h3 h4 h5 h6
  simp only at h1 h2 h3 h4 h5 h6
  have H1 := Lib.hid h1
  have H2 := Lib.hid h2
  have H3 := Lib.hid h3
  have H4 := Lib.hid h4
  have H5 := Lib.hid h5
  have H6 := Lib.hid h6
  clear h1 h2 h3 h4 h5 h6
  have hr1 : RowI (((w.alloc (.cells #[.int .i64 x0, .int .i64 x1, .int .i64 x2, .int .i64 x3, .int .i64 x4, .int .i64 x5, .int .i64 xd] 34)).alloc (.cells #[.int .i64 y0, .int .i64 y1, .int .i64 y2, .int .i64 y3, .int .i64 y4, .int .i64 y5, .int .i64 yd] 34)).alloc (.cells #[.int .i64 b1, .int .i64 b2] 42)) w.heap.size 34 [x0, x1, x2, x3, x4, x5, xd] := ((RowI.of_alloc w 34 [x0, x1, x2, x3, x4, x5, xd]).alloc _).alloc _
  have hr2 : RowI (((w.alloc (.cells #[.int .i64 x0, .int .i64 x1, .int .i64 x2, .int .i64 x3, .int .i64 x4, .int .i64 x5, .int .i64 xd] 34)).alloc (.cells #[.int .i64 y0, .int .i64 y1, .int .i64 y2, .int .i64 y3, .int .i64 y4, .int .i64 y5, .int .i64 yd] 34)).alloc (.cells #[.int .i64 b1, .int .i64 b2] 42)) (w.heap.size + 1) 34 [y0, y1, y2, y3, y4, y5, yd] := by
    have h := (RowI.of_alloc (w.alloc (.cells #[.int .i64 x0, .int .i64 x1, .int .i64 x2, .int .i64 x3, .int .i64 x4, .int .i64 x5, .int .i64 xd] 34)) 34 [y0, y1, y2, y3, y4, y5, yd]).alloc (.cells #[.int .i64 b1, .int .i64 b2] 42)
    rw [World.size_alloc] at h
    exact h
  have hr3 : RowI (((w.alloc (.cells #[.int .i64 x0, .int .i64 x1, .int .i64 x2, .int .i64 x3, .int .i64 x4, .int .i64 x5, .int .i64 xd] 34)).alloc (.cells #[.int .i64 y0, .int .i64 y1, .int .i64 y2, .int .i64 y3, .int .i64 y4, .int .i64 y5, .int .i64 yd] 34)).alloc (.cells #[.int .i64 b1, .int .i64 b2] 42)) (w.heap.size + 1 + 1) 42 [b1, b2] := by
    have h := RowI.of_alloc ((w.alloc (.cells #[.int .i64 x0, .int .i64 x1, .int .i64 x2, .int .i64 x3, .int .i64 x4, .int .i64 x5, .int .i64 xd] 34)).alloc (.cells #[.int .i64 y0, .int .i64 y1, .int .i64 y2, .int .i64 y3, .int .i64 y4, .int .i64 y5, .int .i64 yd] 34)) 42 [b1, b2]
    rw [World.size_alloc, World.size_alloc] at h
    exact h
  have hb0 := ((belA w (.cells #[.int .i64 x0, .int .i64 x1, .int .i64 x2, .int .i64 x3, .int .i64 x4, .int .i64 x5, .int .i64 xd] 34)).alloc (by simp) (.cells #[.int .i64 y0, .int .i64 y1, .int .i64 y2, .int .i64 y3, .int .i64 y4, .int .i64 y5, .int .i64 yd] 34)).alloc (by simp; omega) (.cells #[.int .i64 b1, .int .i64 b2] 42)
  have HR1 := Lib.hid hr1
  have HR2 := Lib.hid hr2
  have HR3 := Lib.hid hr3
  have HB := Lib.hid hb0
  have hz := hb0.size
  clear hr1 hr2 hr3 hb0
  go_enter Tryd.func6, Tryd.ntmps6
  go_wp2_with fail
  refine (H1.out _).mono ?_
  rintro e w1 ⟨he, hb⟩
  subst he
  clear H1
  have tHR1 := HR1.out.up hb
  have tHR2 := HR2.out.up hb
  have tHR3 := HR3.out.up hb
  have tB := HB.out.trans (hb.mono hz)
  clear HB hz hb HR1 HR2 HR3
  have HR1 := Lib.hid tHR1
  have HR2 := Lib.hid tHR2
  have HR3 := Lib.hid tHR3
  have HB := Lib.hid tB
  have hz := tB.size
  clear tB tHR1 tHR2 tHR3
  have l3 := HR3.out.lt
  obtain ⟨c0, c1, c2, c3, c4, c5, c6⟩ := (HR1.out.alloc (.cells #[.int .i64 p0, .int .i64 p1, .int .i64 p2, .int .i64 p3, .int .i64 p4, .int .i64 p5, .int .i64 pd] 34)).r7
  simp only [Nat.zero_add] at c0 c1 c2 c3 c4 c5 c6
  obtain ⟨d0, d1, d2, d3, d4, d5, d6⟩ := (HR2.out.alloc (.cells #[.int .i64 p0, .int .i64 p1, .int .i64 p2, .int .i64 p3, .int .i64 p4, .int .i64 p5, .int .i64 pd] 34)).r7
  simp only [Nat.zero_add] at d0 d1 d2 d3 d4 d5 d6
  go_wp2_with fail
  refine (H2.out _).mono ?_
  rintro e w2 ⟨he, hb⟩
  subst he
  clear H2
  clear c0 c1 c2 c3 c4 c5 c6 d0 d1 d2 d3 d4 d5 d6
  obtain ⟨g1, hg1⟩ : ∃ g1, g1 = w1.heap.size := ⟨_, rfl⟩
  have hb2 := (belA w1 (.cells #[.int .i64 p0, .int .i64 p1, .int .i64 p2, .int .i64 p3, .int .i64 p4, .int .i64 p5, .int .i64 pd] 34)).trans (hb.mono (by simp))
  have tHR1 := HR1.out.up hb2
  have tHR2 := HR2.out.up hb2
  have tHR3 := HR3.out.up hb2
  have tHC := (RowI.of_alloc w1 34 [p0, p1, p2, p3, p4, p5, pd]).up hb
  have tB := HB.out.trans (hb2.mono hz)
  rw [← hg1] at tHC l3 ⊢
  have HG1 := Lib.hid hg1
  clear HB hz hb hb2 hg1 HR1 HR2 HR3
  have HR1 := Lib.hid tHR1
  have HR2 := Lib.hid tHR2
  have HR3 := Lib.hid tHR3
  have HC := Lib.hid tHC
  have HB := Lib.hid tB
  have hz := tB.size
  clear tB tHR1 tHR2 tHR3 tHC
  have l4 := HC.out.lt
  obtain ⟨c0, c1, c2, c3, c4, c5, c6⟩ := (HR1.out.alloc (.cells #[.int .i64 p0, .int .i64 p1, .int .i64 p2, .int .i64 p3, .int .i64 p4, .int .i64 p5, .int .i64 pd] 34)).r7
  simp only [Nat.zero_add] at c0 c1 c2 c3 c4 c5 c6
  obtain ⟨d0, d1, d2, d3, d4, d5, d6⟩ := (HR2.out.alloc (.cells #[.int .i64 p0, .int .i64 p1, .int .i64 p2, .int .i64 p3, .int .i64 p4, .int .i64 p5, .int .i64 pd] 34)).r7
  simp only [Nat.zero_add] at d0 d1 d2 d3 d4 d5 d6
  obtain ⟨m0, m1, m2, m3, m4, m5, m6⟩ := (HC.out.alloc (.cells #[.int .i64 p0, .int .i64 p1, .int .i64 p2, .int .i64 p3, .int .i64 p4, .int .i64 p5, .int .i64 pd] 34)).r7
  simp only [Nat.zero_add] at m0 m1 m2 m3 m4 m5 m6
  have nep := fun W => neq_self p0 p1 p2 p3 p4 p5 pd W
  clear c0 c1 c2 c3 c4 c5 c6 d0 d1 d2 d3 d4 d5 d6 m0 m1 m2 m3 m4 m5 m6
  obtain ⟨c0, c1, c2, c3, c4, c5, c6⟩ := (HR1.out.alloc (.cells #[.int .i64 p0, .int .i64 p1, .int .i64 p2, .int .i64 p3, .int .i64 p4, .int .i64 p5, .int .i64 pd] 34)).r7
  simp only [Nat.zero_add] at c0 c1 c2 c3 c4 c5 c6
  obtain ⟨d0, d1, d2, d3, d4, d5, d6⟩ := (HR2.out.alloc (.cells #[.int .i64 p0, .int .i64 p1, .int .i64 p2, .int .i64 p3, .int .i64 p4, .int .i64 p5, .int .i64 pd] 34)).r7
  simp only [Nat.zero_add] at d0 d1 d2 d3 d4 d5 d6
  obtain ⟨m0, m1, m2, m3, m4, m5, m6⟩ := (HC.out.alloc (.cells #[.int .i64 p0, .int .i64 p1, .int .i64 p2, .int .i64 p3, .int .i64 p4, .int .i64 p5, .int .i64 pd] 34)).r7
  simp only [Nat.zero_add] at m0 m1 m2 m3 m4 m5 m6
  go_wp2_with fail
  refine (H3.out _).mono ?_
  rintro e w3 ⟨he, hb⟩
  subst he
  clear H3 nep
  clear c0 c1 c2 c3 c4 c5 c6 d0 d1 d2 d3 d4 d5 d6 m0 m1 m2 m3 m4 m5 m6
  obtain ⟨g2, hg2⟩ : ∃ g2, g2 = w2.heap.size := ⟨_, rfl⟩
  have hb2 := (belA w2 (.cells #[.int .i64 p0, .int .i64 p1, .int .i64 p2, .int .i64 p3, .int .i64 p4, .int .i64 p5, .int .i64 pd] 34)).trans (hb.mono (by simp))
  have tHR1 := HR1.out.up hb2
  have tHR2 := HR2.out.up hb2
  have tHR3 := HR3.out.up hb2
  have tHC := HC.out.up hb2
  have tHD := (RowI.of_alloc w2 34 [p0, p1, p2, p3, p4, p5, pd]).up hb
  have tB := HB.out.trans (hb2.mono hz)
  rw [← hg2] at tHD l4 ⊢
  have HG2 := Lib.hid hg2
  clear HB hz hb hb2 hg2 HR1 HR2 HR3 HC
  have HR1 := Lib.hid tHR1
  have HR2 := Lib.hid tHR2
  have HR3 := Lib.hid tHR3
  have HC := Lib.hid tHC
  have HD := Lib.hid tHD
  have HB := Lib.hid tB
  have hz := tB.size
  clear tB tHR1 tHR2 tHR3 tHC tHD
  have l5 := HD.out.lt
  have n1 : w.heap.size ≠ g1 := by omega
  have n2 : w.heap.size + 1 ≠ g1 := by omega
  have n3 : w.heap.size + 1 + 1 ≠ g1 := by omega
  have n4 : g2 ≠ g1 := by omega
  obtain ⟨m0, m1, m2, m3, m4, m5, m6⟩ := HC.out.r7
  simp only [Nat.zero_add] at m0 m1 m2 m3 m4 m5 m6
  have fm0 := HC.out.frozen 0
  have fm1 := HC.out.frozen 1
  have fm2 := HC.out.frozen 2
  have fm3 := HC.out.frozen 3
  have fm4 := HC.out.frozen 4
  have fm5 := HC.out.frozen 5
  have fm6 := HC.out.frozen 6
  have K1 := Lib.hid (putR_other HR1.out n1 q0 q1 q2 q3 q4 q5 qd)
  have K2 := Lib.hid (putR_other HR2.out n2 q0 q1 q2 q3 q4 q5 qd)
  have K3 := Lib.hid (putR_other HR3.out n3 q0 q1 q2 q3 q4 q5 qd)
  have K4 := Lib.hid (putR_row HC.out q0 q1 q2 q3 q4 q5 qd)
  have K5 := Lib.hid (putR_other HD.out n4 q0 q1 q2 q3 q4 q5 qd)
  have tB := putR_below HB.out (show w.heap.size ≤ g1 by omega) q0 q1 q2 q3 q4 q5 qd
  have KB := Lib.hid tB
  clear tB HB
  obtain ⟨c0, c1, c2, c3, c4, c5, c6⟩ := HR1.out.r7
  obtain ⟨d0, d1, d2, d3, d4, d5, d6⟩ := HR2.out.r7
  simp only [Nat.zero_add] at c0 c1 c2 c3 c4 c5 c6 d0 d1 d2 d3 d4 d5 d6
  go_wp2_with fail
  refine (H4.out (putR w3 g1 q0 q1 q2 q3 q4 q5 qd)).mono ?_
  rintro e w4 ⟨he, hb⟩
  subst he
  clear H4
  have tHR1 := K1.out.up hb
  have tHR2 := K2.out.up hb
  have tHR3 := K3.out.up hb
  have tHC := K4.out.up hb
  have tHD := K5.out.up hb
  have tB := KB.out.trans (hb.mono KB.out.size)
  clear K1 K2 K3 K4 K5 KB hb hz HR1 HR2 HR3 HC HD
  have HR1 := Lib.hid tHR1
  have HR2 := Lib.hid tHR2
  have HR3 := Lib.hid tHR3
  have HC := Lib.hid tHC
  have HD := Lib.hid tHD
  have HB := Lib.hid tB
  have hz := tB.size
  clear tB tHR1 tHR2 tHR3 tHC tHD
  clear c0 c1 c2 c3 c4 c5 c6 d0 d1 d2 d3 d4 d5 d6
  clear m0 m1 m2 m3 m4 m5 m6 fm0 fm1 fm2 fm3 fm4 fm5 fm6
  have o1 : w.heap.size ≠ g2 := by omega
  have o2 : w.heap.size + 1 ≠ g2 := by omega
  have o3 : w.heap.size + 1 + 1 ≠ g2 := by omega
  have K1 := Lib.hid (putR_other HR1.out o1 q0 q1 q2 q3 q4 q5 qd)
  have K2 := Lib.hid (putR_other HR2.out o2 q0 q1 q2 q3 q4 q5 qd)
  have K3 := Lib.hid (putR_other HR3.out o3 q0 q1 q2 q3 q4 q5 qd)
  have K4 := Lib.hid (putR_other HC.out (Ne.symm n4) q0 q1 q2 q3 q4 q5 qd)
  have K5 := Lib.hid (putR_row HD.out q0 q1 q2 q3 q4 q5 qd)
  have tB := putR_below HB.out (show w.heap.size ≤ g2 by omega) q0 q1 q2 q3 q4 q5 qd
  have KB := Lib.hid tB
  clear tB HB
  obtain ⟨m0, m1, m2, m3, m4, m5, m6⟩ := HD.out.r7
  simp only [Nat.zero_add] at m0 m1 m2 m3 m4 m5 m6
  have fm0 := HD.out.frozen 0
  have fm1 := HD.out.frozen 1
  have fm2 := HD.out.frozen 2
  have fm3 := HD.out.frozen 3
  have fm4 := HD.out.frozen 4
  have fm5 := HD.out.frozen 5
  have fm6 := HD.out.frozen 6
  have neq := fun W => neq_self q0 q1 q2 q3 q4 q5 qd W
  obtain ⟨c0, c1, c2, c3, c4, c5, c6⟩ := HR1.out.r7
  have e0 := HR3.out.cell (i := 0) (x := b1) rfl
  have e1 := HR3.out.cell (i := 1) (x := b2) rfl
  obtain ⟨d0, d1, d2, d3, d4, d5, d6⟩ := HC.out.r7
  simp only [Nat.zero_add] at c0 c1 c2 c3 c4 c5 c6 d0 d1 d2 d3 d4 d5 d6
  go_wp2_with fail
  refine (H5.out (putR w4 g2 q0 q1 q2 q3 q4 q5 qd)).mono ?_
  rintro e w5 ⟨he, hb⟩
  subst he
  clear H5
  have tHR1 := K1.out.up hb
  have tHR2 := K2.out.up hb
  have tHR3 := K3.out.up hb
  have tHC := K4.out.up hb
  have tHD := K5.out.up hb
  have tB := KB.out.trans (hb.mono KB.out.size)
  clear K1 K2 K3 K4 K5 KB hb hz HR1 HR2 HR3 HC HD
  have HR1 := Lib.hid tHR1
  have HR2 := Lib.hid tHR2
  have HR3 := Lib.hid tHR3
  have HC := Lib.hid tHC
  have HD := Lib.hid tHD
  have HB := Lib.hid tB
  have hz := tB.size
  clear tB tHR1 tHR2 tHR3 tHC tHD
  clear c0 c1 c2 c3 c4 c5 c6 d0 d1 d2 d3 d4 d5 d6
  clear m0 m1 m2 m3 m4 m5 m6 fm0 fm1 fm2 fm3 fm4 fm5 fm6
  clear neq e0 e1
  have K1 := Lib.hid (putR_other HR1.out n1 s0 s1 s2 s3 s4 s5 sd)
  have K2 := Lib.hid (putR_other HR2.out n2 s0 s1 s2 s3 s4 s5 sd)
  have K3 := Lib.hid (putR_other HR3.out n3 s0 s1 s2 s3 s4 s5 sd)
  have K4 := Lib.hid (putR_row HC.out s0 s1 s2 s3 s4 s5 sd)
  have K5 := Lib.hid (putR_other HD.out n4 s0 s1 s2 s3 s4 s5 sd)
  have tB := putR_below HB.out (show w.heap.size ≤ g1 by omega) s0 s1 s2 s3 s4 s5 sd
  have KB := Lib.hid tB
  clear tB HB
  obtain ⟨m0, m1, m2, m3, m4, m5, m6⟩ := HC.out.r7
  simp only [Nat.zero_add] at m0 m1 m2 m3 m4 m5 m6
  have fm0 := HC.out.frozen 0
  have fm1 := HC.out.frozen 1
  have fm2 := HC.out.frozen 2
  have fm3 := HC.out.frozen 3
  have fm4 := HC.out.frozen 4
  have fm5 := HC.out.frozen 5
  have fm6 := HC.out.frozen 6
  obtain ⟨c0, c1, c2, c3, c4, c5, c6⟩ := HR1.out.r7
  have e0 := HR3.out.cell (i := 0) (x := b1) rfl
  have e1 := HR3.out.cell (i := 1) (x := b2) rfl
  simp only [Nat.zero_add] at c0 c1 c2 c3 c4 c5 c6
  go_wp2_with fail
  refine (H6.out (putR w5 g1 s0 s1 s2 s3 s4 s5 sd)).mono ?_
  rintro e w6 ⟨he, hb⟩
  subst he
  clear H6
  have tHR1 := K1.out.up hb
  have tHR2 := K2.out.up hb
  have tHR3 := K3.out.up hb
  have tHC := K4.out.up hb
  have tHD := K5.out.up hb
  have tB := KB.out.trans (hb.mono KB.out.size)
  clear K1 K2 K3 K4 K5 KB hb hz HR1 HR2 HR3 HC HD
  have HR1 := Lib.hid tHR1
  have HR2 := Lib.hid tHR2
  have HR3 := Lib.hid tHR3
  have HC := Lib.hid tHC
  have HD := Lib.hid tHD
  have HB := Lib.hid tB
  have hz := tB.size
  clear tB tHR1 tHR2 tHR3 tHC tHD
  clear c0 c1 c2 c3 c4 c5 c6 e0 e1
  clear m0 m1 m2 m3 m4 m5 m6 fm0 fm1 fm2 fm3 fm4 fm5 fm6
  have K1 := Lib.hid (putR_other HR1.out o1 s0 s1 s2 s3 s4 s5 sd)
  have K2 := Lib.hid (putR_other HR2.out o2 s0 s1 s2 s3 s4 s5 sd)
  have K3 := Lib.hid (putR_other HR3.out o3 s0 s1 s2 s3 s4 s5 sd)
  have K4 := Lib.hid (putR_other HC.out (Ne.symm n4) s0 s1 s2 s3 s4 s5 sd)
  have K5 := Lib.hid (putR_row HD.out s0 s1 s2 s3 s4 s5 sd)
  have tB := putR_below HB.out (show w.heap.size ≤ g2 by omega) s0 s1 s2 s3 s4 s5 sd
  have KB := Lib.hid tB
  clear tB HB
  obtain ⟨m0, m1, m2, m3, m4, m5, m6⟩ := HD.out.r7
  simp only [Nat.zero_add] at m0 m1 m2 m3 m4 m5 m6
  have fm0 := HD.out.frozen 0
  have fm1 := HD.out.frozen 1
  have fm2 := HD.out.frozen 2
  have fm3 := HD.out.frozen 3
  have fm4 := HD.out.frozen 4
  have fm5 := HD.out.frozen 5
  have fm6 := HD.out.frozen 6
  have eqs := fun W => eql_self s0 s1 s2 s3 s4 s5 sd W
  obtain ⟨d0, d1, d2, d3, d4, d5, d6⟩ := HC.out.r7
  simp only [Nat.zero_add] at d0 d1 d2 d3 d4 d5 d6
  have haw := awake_any (putR w6 g2 s0 s1 s2 s3 s4 s5 sd) (HP.out.below KB.out)
  have HAW := Lib.hid haw
  clear haw
  go_wp2_with fail
  refine HAW.out.mono ?_
  rintro e w9 ⟨he, hb9⟩
  subst he
  have HB9 := Lib.hid (KB.out.trans (hb9.mono KB.out.size))
  clear hb9
  go_wp2
  go_ret
  exact ⟨rfl, HB9.out⟩
end Go.Proofs.YtokkcmadgcdpiaaDoor
