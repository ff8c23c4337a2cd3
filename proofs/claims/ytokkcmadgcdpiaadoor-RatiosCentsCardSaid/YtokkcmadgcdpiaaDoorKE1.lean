import Derived.Test.YtokkcmadgcdpiaaDoorKD1
import Derived.Test.YtokkcmadgcdpiaaDoorRG5
import Derived.Deep.DeepCutAuto
namespace Go.Proofs.YtokkcmadgcdpiaaDoor
open Go.RowKit

/-! The law on Cents. -/
def CtU (x : Rt) (m : Int) (b : Bool) (er : Int) : Prop := er ≠ 0 ∨ (er = 0 ∧ x.Ok ∧ FlIs x.v 1200000 x.d m ∧ b = (Fl x.v 1200000 x.d m == 0) ∧ -1000000000000 ≤ m ∧ m ≤ 1000000000000)
theorem Cents_u (x0 x1 x2 x3 x4 x5 xd : Int) (w : World) (hp : PrL w) :
    Calls Tryd.prog 36 #[.agg #[.int .i64 x0, .int .i64 x1, .int .i64 x2, .int .i64 x3, .int .i64 x4, .int .i64 x5, .int .i64 xd]] w fun e w' => ∃ (m : Int) (b : Bool) (er : Int), e = .returned (.tuple #[.int .i64 m, .bool b, .int .i64 er]) ∧ CtU ⟨⟨x0, x1, x2, x3, x4, x5⟩, xd⟩ m b er ∧ Below w.heap.size w w' := by
  refine (Cents_any x0 x1 x2 x3 x4 x5 xd w hp).mono ?_
  rintro e w' (⟨h0, m, b, er, he, hw, hb⟩ | ⟨h0, he, hb⟩)
  · refine ⟨m, b, er, he, ?_, hb⟩
    rcases hw with ⟨h1, h2, h3, h4, h5⟩ | ⟨h1, -⟩
    · exact .inr ⟨h1, Rt.ok_iff.1 h0, h2, h3, h4, h5⟩
    · exact .inl (by rw [h1]; omega)
  · exact ⟨0, false, _, he, .inl h0, hb⟩
theorem bothW_ok {x y : Rt} (hx : x.Ok) (hy : y.Ok) (s : Int) : bothW x y s = lowW (timesW x y s).1 (timesW x y s).2 := by
  unfold bothW
  rw [if_pos (Rt.ok_iff.2 hx), if_pos (Rt.ok_iff.2 hy)]
theorem cmpW_ok {x y : Rt} (hx : x.Ok) (hy : y.Ok) : cmpW x y = (Sg (timesW x y (-1)).1, 0) := by
  unfold cmpW
  rw [if_pos (Rt.ok_iff.2 hx), if_pos (Rt.ok_iff.2 hy)]
set_option maxRecDepth 100000 in
set_option maxHeartbeats 8000000 in
theorem lawCents_any (x0 x1 x2 x3 x4 x5 xd y0 y1 y2 y3 y4 y5 yd : Int) (w : World) (hp : PrL w) :
    Calls Tryd.prog 10 #[.agg #[.int .i64 x0, .int .i64 x1, .int .i64 x2, .int .i64 x3, .int .i64 x4, .int .i64 x5, .int .i64 xd], .agg #[.int .i64 y0, .int .i64 y1, .int .i64 y2, .int .i64 y3, .int .i64 y4, .int .i64 y5, .int .i64 yd]] w fun e w' => e = .returned (.bool true) ∧ Below w.heap.size w w' := by
  have HP := Lib.hid hp
  clear hp
  have hr1 : RowI ((w.alloc (.cells #[.int .i64 x0, .int .i64 x1, .int .i64 x2, .int .i64 x3, .int .i64 x4, .int .i64 x5, .int .i64 xd] 34)).alloc (.cells #[.int .i64 y0, .int .i64 y1, .int .i64 y2, .int .i64 y3, .int .i64 y4, .int .i64 y5, .int .i64 yd] 34)) w.heap.size 34 [x0, x1, x2, x3, x4, x5, xd] := (RowI.of_alloc w 34 [x0, x1, x2, x3, x4, x5, xd]).alloc _
  have hr2 : RowI ((w.alloc (.cells #[.int .i64 x0, .int .i64 x1, .int .i64 x2, .int .i64 x3, .int .i64 x4, .int .i64 x5, .int .i64 xd] 34)).alloc (.cells #[.int .i64 y0, .int .i64 y1, .int .i64 y2, .int .i64 y3, .int .i64 y4, .int .i64 y5, .int .i64 yd] 34)) (w.heap.size + 1) 34 [y0, y1, y2, y3, y4, y5, yd] := by
    have h := RowI.of_alloc (w.alloc (.cells #[.int .i64 x0, .int .i64 x1, .int .i64 x2, .int .i64 x3, .int .i64 x4, .int .i64 x5, .int .i64 xd] 34)) 34 [y0, y1, y2, y3, y4, y5, yd]
    rw [World.size_alloc] at h
    exact h
  have hb0 := (belA w (.cells #[.int .i64 x0, .int .i64 x1, .int .i64 x2, .int .i64 x3, .int .i64 x4, .int .i64 x5, .int .i64 xd] 34)).alloc (by simp) (.cells #[.int .i64 y0, .int .i64 y1, .int .i64 y2, .int .i64 y3, .int .i64 y4, .int .i64 y5, .int .i64 yd] 34)
  have HR1 := Lib.hid hr1
  have HR2 := Lib.hid hr2
  have HB := Lib.hid hb0
  have hz := hb0.size
  clear hr1 hr2 hb0
  go_enter Tryd.func10, Tryd.ntmps10
  go_wp2_with fail
  refine (Cents_u x0 x1 x2 x3 x4 x5 xd _ (HP.out.below HB.out)).mono ?_
  rintro e w1 ⟨m, is, er1, he, hx, hb⟩
  subst he
  have HX := Lib.hid hx
  clear hx
  have hr1' := HR1.out.up hb
  have hr2' := HR2.out.up hb
  have hb' := HB.out.trans (hb.mono hz)
  clear HR1 HR2 HB hz hb
  have HR1 := Lib.hid hr1'
  have HR2 := Lib.hid hr2'
  have HB := Lib.hid hb'
  have hz := hb'.size
  clear hr1' hr2' hb'
  obtain ⟨d0, d1, d2, d3, d4, d5, d6⟩ := HR2.out.r7
  simp only [Nat.zero_add] at d0 d1 d2 d3 d4 d5 d6
  go_wp2_with fail
  refine (Cents_u y0 y1 y2 y3 y4 y5 yd _ (HP.out.below HB.out)).mono ?_
  rintro e w2 ⟨n, was, er2, he, hy, hb⟩
  subst he
  have HY := Lib.hid hy
  clear hy
  clear d0 d1 d2 d3 d4 d5 d6
  have hr1' := HR1.out.up hb
  have hr2' := HR2.out.up hb
  have hb' := HB.out.trans (hb.mono hz)
  clear HR1 HR2 HB hz hb
  have HR1 := Lib.hid hr1'
  have HR2 := Lib.hid hr2'
  have HB := Lib.hid hb'
  have hz := hb'.size
  clear hr1' hr2' hb'
  by_cases h1 : er1 = 0
  case neg =>
    have h1b : (er1 != 0) = true := by simp [h1]
    clear HX HY
    go_wp2_with fail
    refine (awake_any _ (HP.out.below HB.out)).mono ?_
    rintro e w9 ⟨he, hb9⟩
    subst he
    have HB9 := Lib.hid (HB.out.trans (hb9.mono hz))
    clear hb9
    go_wp2
    go_ret
    exact ⟨rfl, HB9.out⟩
  by_cases h2 : er2 = 0
  case neg =>
    have h2b : (er2 != 0) = true := by simp [h2]
    subst h1
    clear HX HY
    go_wp2_with fail
    refine (awake_any _ (HP.out.below HB.out)).mono ?_
    rintro e w9 ⟨he, hb9⟩
    subst he
    have HB9 := Lib.hid (HB.out.trans (hb9.mono hz))
    clear hb9
    go_wp2
    go_ret
    exact ⟨rfl, HB9.out⟩
  subst h1 h2
  obtain ⟨okx, fx, ex, mx1, mx2⟩ : Rt.Ok ⟨⟨x0, x1, x2, x3, x4, x5⟩, xd⟩ ∧ FlIs ⟨x0, x1, x2, x3, x4, x5⟩ 1200000 xd m ∧ is = (Fl ⟨x0, x1, x2, x3, x4, x5⟩ 1200000 xd m == 0) ∧ -1000000000000 ≤ m ∧ m ≤ 1000000000000 := by
    rcases HX.out with h | ⟨-, h⟩
    · exact absurd rfl h
    · exact h
  obtain ⟨oky, fy, ey, my1, my2⟩ : Rt.Ok ⟨⟨y0, y1, y2, y3, y4, y5⟩, yd⟩ ∧ FlIs ⟨y0, y1, y2, y3, y4, y5⟩ 1200000 yd n ∧ was = (Fl ⟨y0, y1, y2, y3, y4, y5⟩ 1200000 yd n == 0) ∧ -1000000000000 ≤ n ∧ n ≤ 1000000000000 := by
    rcases HY.out with h | ⟨-, h⟩
    · exact absurd rfl h
    · exact h
  have OX := Lib.hid okx
  have OY := Lib.hid oky
  have FX := Lib.hid fx
  have FY := Lib.hid fy
  have EX := Lib.hid ex
  have EY := Lib.hid ey
  have hmul := fun W => Mul_any x0 x1 x2 x3 x4 x5 xd y0 y1 y2 y3 y4 y5 yd W
  have hmw := bothW_ok okx oky 1
  have hcm := fun W h => Cmp_any x0 x1 x2 x3 x4 x5 xd y0 y1 y2 y3 y4 y5 yd W h
  rw [cmpW_ok okx oky] at hcm
  have hcf := both_cmp (s := 1200000) (by omega) okx oky fx fy
  have hfo := fun W h => Fold_any x0 x1 x2 x3 x4 x5 xd W h
  have HMUL := Lib.hid hmul
  have HMW := Lib.hid hmw
  have HCM := Lib.hid hcm
  have HCF := Lib.hid hcf
  have HFO := Lib.hid hfo
  clear hmul hmw hcm hcf hfo okx oky fx fy ex ey HX HY
  obtain ⟨c0, c1, c2, c3, c4, c5, c6⟩ := HR1.out.r7
  simp only [Nat.zero_add] at c0 c1 c2 c3 c4 c5 c6
  obtain ⟨d0, d1, d2, d3, d4, d5, d6⟩ := HR2.out.r7
  simp only [Nat.zero_add] at d0 d1 d2 d3 d4 d5 d6
  go_wp2_with fail
  refine (HMUL.out _).mono ?_
  rintro e w3 ⟨he, hb⟩
  clear HMUL
  have hmw := HMW.out
  generalize bothW ⟨⟨x0, x1, x2, x3, x4, x5⟩, xd⟩ ⟨⟨y0, y1, y2, y3, y4, y5⟩, yd⟩ 1 = RW at *
  obtain ⟨⟨⟨r0, r1, r2, r3, r4, r5⟩, rd⟩, re⟩ := RW
  unfold rtv at he
  simp only at he
  subst he
  have HM2 := Lib.hid hmw
  clear hmw HMW c0 c1 c2 c3 c4 c5 c6 d0 d1 d2 d3 d4 d5 d6
  have hr1' := HR1.out.up hb
  have hr2' := HR2.out.up hb
  have hb' := HB.out.trans (hb.mono hz)
  clear HR1 HR2 HB hz hb
  have HR1 := Lib.hid hr1'
  have HR2 := Lib.hid hr2'
  have HB := Lib.hid hb'
  have hz := hb'.size
  clear hr1' hr2' hb'
  go_upto_if 50 with fail
  go_cut [] (fun wx => RowI wx w.heap.size 34 [x0, x1, x2, x3, x4, x5, xd] ∧ RowI wx (w.heap.size + 1) 34 [y0, y1, y2, y3, y4, y5, yd] ∧ Below w.heap.size w wx)
  case first =>
    have hr1A := HR1.out.alloc (.cells #[.int .i64 r0, .int .i64 r1, .int .i64 r2, .int .i64 r3, .int .i64 r4, .int .i64 r5, .int .i64 rd] 34)
    have hr2A := HR2.out.alloc (.cells #[.int .i64 r0, .int .i64 r1, .int .i64 r2, .int .i64 r3, .int .i64 r4, .int .i64 r5, .int .i64 rd] 34)
    have hbA := HB.out.trans ((belA w3 (.cells #[.int .i64 r0, .int .i64 r1, .int .i64 r2, .int .i64 r3, .int .i64 r4, .int .i64 r5, .int .i64 rd] 34)).mono hz)
    have hzA := hbA.size
    by_cases h3 : re = 0
    case neg =>
      have h3b : (re == 0) = false := beq_false_of_ne h3
      have R1 := Lib.hid hr1A
      have R2 := Lib.hid hr2A
      have BA := Lib.hid hbA
      clear hr1A hr2A hbA HR1 HR2 HB
      go_wp2
      go_meet
      exact ⟨R1.out, R2.out, BA.out⟩
    subst h3
    have R1 := Lib.hid hr1A
    have R2 := Lib.hid hr2A
    have BA := Lib.hid hbA
    clear hr1A hr2A hbA HR1 HR2 HB
    go_wp2_with fail
    refine (Cents_u r0 r1 r2 r3 r4 r5 rd _ (HP.out.below BA.out)).mono ?_
    rintro e w4 ⟨k, so, er3, he, hr, hb⟩
    subst he
    have hr1 := R1.out.up hb
    have hr2 := R2.out.up hb
    have hbb := BA.out.trans (hb.mono hzA)
    have CR := Lib.hid hr
    have R1' := Lib.hid hr1
    have R2' := Lib.hid hr2
    have BB := Lib.hid hbb
    clear hr hr1 hr2 hbb hb R1 R2 BA
    by_cases h4 : er3 = 0
    case neg =>
      have h4b : (er3 == 0) = false := beq_false_of_ne h4
      clear CR
      go_wp2
      go_meet
      exact ⟨R1'.out, R2'.out, BB.out⟩
    subst h4
    obtain ⟨okr, fr, er, mr1, mr2⟩ : Rt.Ok ⟨⟨r0, r1, r2, r3, r4, r5⟩, rd⟩ ∧ FlIs ⟨r0, r1, r2, r3, r4, r5⟩ 1200000 rd k ∧ so = (Fl ⟨r0, r1, r2, r3, r4, r5⟩ 1200000 rd k == 0) ∧ -1000000000000 ≤ k ∧ k ≤ 1000000000000 := by
      rcases CR.out with h | ⟨-, h⟩
      · exact absurd rfl h
      · exact h
    have hkk := both_mul (s := 1200000) OX.out OY.out HM2.out rfl FX.out FY.out fr
    have hso : is = true → was = true → so = true ∧ k = m + n := fun ha hb => by
      rw [EX.out] at ha
      rw [EY.out] at hb
      simp only [beq_iff_eq] at ha hb
      obtain ⟨q1, q2⟩ := hkk.2 ha hb
      exact ⟨by rw [er, beq_iff_eq]; exact q1, q2⟩
    have hk1 := hkk.1
    have HSO := Lib.hid hso
    clear CR okr fr er hkk hso EX EY FX FY
    rcases hk1 with hk1 | hk1
    · subst hk1
      cases is with
      | false =>
        go_wp2
        go_meet
        exact ⟨R1'.out, R2'.out, BB.out⟩
      | true =>
        cases was with
        | false =>
          go_wp2
          go_meet
          exact ⟨R1'.out, R2'.out, BB.out⟩
        | true =>
          obtain ⟨rfl, -⟩ := HSO.out rfl rfl
          go_wp2
          go_meet
          exact ⟨R1'.out, R2'.out, BB.out⟩
    · subst hk1
      have hnn : ¬ m + n + 1 = m + n := by omega
      cases is with
      | false =>
        go_wp2
        go_meet
        exact ⟨R1'.out, R2'.out, BB.out⟩
      | true =>
        cases was with
        | false =>
          go_wp2
          go_meet
          exact ⟨R1'.out, R2'.out, BB.out⟩
        | true =>
          obtain ⟨-, h⟩ := HSO.out rfl rfl
          omega
  case rest =>
    obtain ⟨hr1, hr2, hb⟩ := hcut
    clear HR1 HR2 HB hz HM2
    have HR1 := Lib.hid hr1
    have HR2 := Lib.hid hr2
    have HB := Lib.hid hb
    have hz := hb.size
    clear hr1 hr2 hb
    obtain ⟨c0, c1, c2, c3, c4, c5, c6⟩ := HR1.out.r7
    simp only [Nat.zero_add] at c0 c1 c2 c3 c4 c5 c6
    obtain ⟨d0, d1, d2, d3, d4, d5, d6⟩ := HR2.out.r7
    simp only [Nat.zero_add] at d0 d1 d2 d3 d4 d5 d6
    go_wp2_with fail
    refine (HCM.out _ (HP.out.below HB.out)).mono ?_
    clear HCM
    rintro e w5 ⟨he, hb⟩
    have hcf := HCF.out
    have hc3 := Sg_cases (timesW ⟨⟨x0, x1, x2, x3, x4, x5⟩, xd⟩ ⟨⟨y0, y1, y2, y3, y4, y5⟩, yd⟩ (-1)).1
    clear HCF
    generalize Sg (timesW ⟨⟨x0, x1, x2, x3, x4, x5⟩, xd⟩ ⟨⟨y0, y1, y2, y3, y4, y5⟩, yd⟩ (-1)).1 = c at *
    simp only at he
    subst he
    clear c0 c1 c2 c3 c4 c5 c6 d0 d1 d2 d3 d4 d5 d6
    have hr1' := HR1.out.up hb
    have hr2' := HR2.out.up hb
    have hb' := HB.out.trans (hb.mono hz)
    clear HR1 HR2 HB hz hb
    have HR1 := Lib.hid hr1'
    have HR2 := Lib.hid hr2'
    have HB := Lib.hid hb'
    have hz := hb'.size
    clear hr1' hr2' hb'
    obtain ⟨q1, q2, q3⟩ := hcf
    have htail : ∀ (u : Value), True := fun _ => trivial
    clear htail
    have hb0 : (c < 0 → m ≤ n) ∧ (0 < c → n ≤ m) ∧ (c = 0 → m = n ∧ is = was) := ⟨q1, q2, fun h => by
      obtain ⟨a1, a2⟩ := q3 h
      refine ⟨a1, ?_⟩
      rw [EX.out, EY.out, Bool.eq_iff_iff, beq_iff_eq, beq_iff_eq]
      exact a2⟩
    clear q1 q2 q3
    obtain ⟨c0, c1, c2, c3, c4, c5, c6⟩ := HR1.out.r7
    simp only [Nat.zero_add] at c0 c1 c2 c3 c4 c5 c6
    go_upto_region 11 with fail
    go_cut [130] (fun s wx => s = .bool false ∧ wx = w5)
    case first =>
      obtain ⟨q1, q2, q3⟩ := hb0
      rcases hc3 with rfl | rfl | rfl
      · have hmn := q2 (by omega)
        clear q1 q2 q3
        go_wp2
        go_meet
        exact ⟨by rw [decide_eq_false (by omega)], rfl⟩
      · obtain ⟨h5, h6⟩ := q3 rfl
        subst h5 h6
        clear q1 q2 q3
        cases is
        all_goals
          go_wp2
          go_meet
          exact ⟨rfl, rfl⟩
      · have hmn := q1 (by omega)
        clear q1 q2 q3
        go_wp2
        go_meet
        exact ⟨by rw [decide_eq_false (by omega)], rfl⟩
    case rest =>
      obtain ⟨rfl, rfl⟩ := hcut
      clear hb0 hc3
      have hfold : ∀ k : Int, FlIs ⟨x0, x1, x2, x3, x4, x5⟩ 1 xd k → (foR ⟨⟨x0, x1, x2, x3, x4, x5⟩, xd⟩ k).fits = true → ∀ W, PrL W → Calls Tryd.prog 36 #[rtv (foR ⟨⟨x0, x1, x2, x3, x4, x5⟩, xd⟩ k)] W fun e w' => (e = .returned (.tuple #[.int .i64 (m - 1200000 * k), .bool is, .int .i64 0]) ∧ 0 ≤ m - 1200000 * k ∧ m - 1200000 * k < 1200000) ∧ Below W.heap.size W w' := by
        intro k hk hf W hW
        have okf := fold_ok OX.out hf
        have hxd := OX.out.bds.2.1
        refine (Cents_any (x0 + -(k * xd)) x1 x2 x3 x4 x5 xd W hW).mono ?_
        rintro e w' (⟨h0, m', b, er, he, hw, hb⟩ | ⟨h0, he, hb⟩)
        · obtain ⟨a1, a2, a3, a4, a5⟩ := fold_fl (v := ⟨x0, x1, x2, x3, x4, x5⟩) hxd hk FX.out hw
          rw [← EX.out] at a5
          subst a1 a2 a5
          exact ⟨⟨he, a3, a4⟩, hb⟩
        · exact absurd (Rt.ok_iff.2 okf) h0
      have HFD := Lib.hid hfold
      have OE := Lib.hid (Rt.ok_iff.2 OX.out)
      clear hfold OX OY FX FY EX EY
      go_wp2_with fail
      refine (HFO.out _ (HP.out.below HB.out)).mono ?_
      rintro e w6 (⟨-, k, hk, k1, k2, hb, ⟨hf, he⟩ | ⟨hf, he⟩⟩ | ⟨h0, he, hb⟩)
      case inr => exact absurd OE.out h0
      case inl.inr =>
        unfold rtv Rt.zero at he
        simp only at he
        subst he
        clear HFD hk hf
        have hb' := HB.out.trans (hb.mono hz)
        have hbA := hb'.trans ((belA w6 (.cells #[.int .i64 0, .int .i64 0, .int .i64 0, .int .i64 0, .int .i64 0, .int .i64 0, .int .i64 0] 34)).mono hb'.size)
        have hz6 := hbA.size
        have BA := Lib.hid hbA
        clear hb hb' hbA HR1 HR2 HB c0 c1 c2 c3 c4 c5 c6
        go_wp2_with fail
        refine (awake_any _ (HP.out.below BA.out)).mono ?_
        rintro e w9 ⟨he, hb9⟩
        subst he
        have HB9 := Lib.hid (BA.out.trans (hb9.mono hz6))
        clear hb9
        go_wp2
        go_ret
        exact ⟨rfl, HB9.out⟩
      case inl.inl =>
        have hce := HFD.out k hk hf
        have hfo : foR ⟨⟨x0, x1, x2, x3, x4, x5⟩, xd⟩ k = ⟨⟨x0 + -(k * xd), x1, x2, x3, x4, x5⟩, xd⟩ := rfl
        rw [hfo] at he hce
        unfold rtv at he hce
        simp only at he hce
        generalize x0 + -(k * xd) = Q at *
        subst he
        have HCE := Lib.hid hce
        have hb' := HB.out.trans (hb.mono hz)
        have hbA := hb'.trans ((belA w6 (.cells #[.int .i64 Q, .int .i64 x1, .int .i64 x2, .int .i64 x3, .int .i64 x4, .int .i64 x5, .int .i64 xd] 34)).mono hb'.size)
        have hz6 := hbA.size
        have BA := Lib.hid hbA
        clear hb hb' hbA HR1 HR2 HB c0 c1 c2 c3 c4 c5 c6 hk hf hfo hce HFD
        go_wp2_with fail
        refine (HCE.out _ (HP.out.below BA.out)).mono ?_
        rintro e w7 ⟨⟨he, hlo, hhi⟩, hb⟩
        subst he
        have hb7 := BA.out.trans (hb.mono hz6)
        have hz7 := hb7.size
        have B7 := Lib.hid hb7
        clear hb hb7 BA HCE
        cases is
        all_goals
          go_wp2_with fail
          refine (awake_any _ (HP.out.below B7.out)).mono ?_
          rintro e w9 ⟨he, hb9⟩
          subst he
          have HB9 := Lib.hid (B7.out.trans (hb9.mono hz7))
          clear hb9
          go_wp2
          go_ret
          exact ⟨rfl, HB9.out⟩
end Go.Proofs.YtokkcmadgcdpiaaDoor
