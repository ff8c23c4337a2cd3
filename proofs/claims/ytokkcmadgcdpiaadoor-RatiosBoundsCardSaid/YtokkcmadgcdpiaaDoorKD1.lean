import Derived.Test.YtokkcmadgcdpiaaDoorKC5
import Derived.Test.YtokkcmadgcdpiaaDoorRG4
namespace Go.Proofs.YtokkcmadgcdpiaaDoor
open Go.RowKit

/-! The laws' of and awake. -/
set_option maxRecDepth 100000 in
set_option maxHeartbeats 400000 in
theorem lawOf_any (num den : Int) (w : World) (hp : PrL w) :
    Calls Tryd.prog 44 #[.int .i64 num, .int .i64 den] w fun e w' => e = .returned (rtv (ofW num den).1) ∧ Below w.heap.size w w' := by
  have hof := fun W h => Of_any num den W h
  have HOF := Lib.hid hof
  clear hof
  generalize ofW num den = RW at *
  have HR := Lib.hid (RowI.of_alloc w 34 [0, 0, 0, 0, 0, 0, 0])
  have HB := Lib.hid (belA w (.cells #[.int .i64 0, .int .i64 0, .int .i64 0, .int .i64 0, .int .i64 0, .int .i64 0, .int .i64 0] 34))
  have HP := Lib.hid hp
  clear hp
  go_enter Tryd.func44, Tryd.ntmps44
  go_wp2_with fail
  refine (HOF.out _ (HP.out.below HB.out)).mono ?_
  rintro e w1 ⟨he, hb1⟩
  obtain ⟨⟨⟨r0, r1, r2, r3, r4, r5⟩, rd⟩, re⟩ := RW
  unfold rtv at he
  simp only at he
  subst he
  have hr := ((HR.out.up hb1).alloc (.cells #[.int .i64 r0, .int .i64 r1, .int .i64 r2, .int .i64 r3, .int .i64 r4, .int .i64 r5, .int .i64 rd] 34))
  have hb : Below w.heap.size w (w1.alloc (.cells #[.int .i64 r0, .int .i64 r1, .int .i64 r2, .int .i64 r3, .int .i64 r4, .int .i64 r5, .int .i64 rd] 34)) := by
    have h1 := HB.out.trans (hb1.mono (by simp))
    exact h1.trans ((belA w1 _).mono h1.size)
  clear HR HB hb1
  obtain ⟨c0, c1, c2, c3, c4, c5, c6⟩ := hr.r7
  simp only [Nat.zero_add] at c0 c1 c2 c3 c4 c5 c6
  have f0 := hr.frozen 0
  have f1 := hr.frozen 1
  have f2 := hr.frozen 2
  have f3 := hr.frozen 3
  have f4 := hr.frozen 4
  have f5 := hr.frozen 5
  have f6 := hr.frozen 6
  have HR := Lib.hid hr
  have HB := Lib.hid hb
  clear hr hb
  go_wp2
  change bodyPost _ _ _ _ _ (putR _ w.heap.size r0 r1 r2 r3 r4 r5 rd)
  clear c0 c1 c2 c3 c4 c5 c6
  obtain ⟨c0, c1, c2, c3, c4, c5, c6⟩ := (putR_row HR.out r0 r1 r2 r3 r4 r5 rd).r7
  have hB := putR_below HB.out (Nat.le_refl w.heap.size) r0 r1 r2 r3 r4 r5 rd
  generalize putR _ w.heap.size r0 r1 r2 r3 r4 r5 rd = W' at *
  simp only [Nat.zero_add] at c0 c1 c2 c3 c4 c5 c6
  exact bodyPost_ret (v := .agg #[.int .i64 r0, .int .i64 r1, .int .i64 r2, .int .i64 r3, .int .i64 r4, .int .i64 r5, .int .i64 rd]) (by simp [results, Tryd.results44, c0, c1, c2, c3, c4, c5, c6, go_sem]) rfl ⟨rfl, hB⟩
theorem tmI_two (w : World) (a b c d : Int) : TmI (w.alloc (.cells #[.int .i64 a, .int .i64 b, .int .i64 c, .int .i64 d] 63)) (w.alloc (.cells #[.int .i64 a, .int .i64 b, .int .i64 c, .int .i64 d] 63)).heap.size (.slice (some ⟨w.heap.size, 0, none⟩) 2 2) [(a, b), (c, d)] := by
  refine ⟨_, 2, rfl, Nat.le_refl _, fun _ => ⟨w.heap.size, 0, rfl, by simp, fun i x hi => ?_⟩⟩
  have c := fun j => Go.Joins.cell_of_block (heap_alloc_new w (.cells #[.int .i64 a, .int .i64 b, .int .i64 c, .int .i64 d] 63)) j
  match i, hi with
  | 0, hi => cases hi; exact ⟨c 0, c 1⟩
  | 1, hi => cases hi; exact ⟨c 2, c 3⟩
theorem of32 : ofW 3 2 = (⟨fifthV, 1⟩, 0) := by
  have h1 : sts ps6 3 = (1, [0, 1, 0, 0, 0, 0]) := sts6_of (n1 := 3) (n2 := 1) (n3 := 1) (n4 := 1) (n5 := 1) (by decide) (by decide) (by decide) (by decide) (by decide) (by decide) (by decide) (by decide) (by decide) (by decide) (by decide) (by decide)
  have h2 : sts ps6 2 = (1, [1, 0, 0, 0, 0, 0]) := sts6_of (n1 := 1) (n2 := 1) (n3 := 1) (n4 := 1) (n5 := 1) (by decide) (by decide) (by decide) (by decide) (by decide) (by decide) (by decide) (by decide) (by decide) (by decide) (by decide) (by decide)
  unfold ofW ofZ
  simp only [show Int.toNat 3 = 3 from rfl, show Int.toNat 2 = 2 from rfl, h1, h2]
  rfl
theorem Sign_two (a b c d : Int) (w : World) (r : Int) (he : examE [(a, b), (c, d)] = 0) (hr : sgnP (natT [(a, b), (c, d)]) = r) :
    Calls Tryd.prog 12 #[.slice (some ⟨w.heap.size, 0, none⟩) 2 2] (w.alloc (.cells #[.int .i64 a, .int .i64 b, .int .i64 c, .int .i64 d] 63)) fun e w' => e = .returned (.tuple #[.int .i64 r, .int .i64 0]) ∧ Below w.heap.size w w' := by
  refine (Sign_any _ [(a, b), (c, d)] _ (tmI_two w a b c d) (by simp)).mono ?_
  rintro e w' ⟨h1, hb⟩
  rw [he, if_pos rfl, hr] at h1
  exact ⟨h1, (belA w _).trans (hb.mono (by simp))⟩
set_option maxRecDepth 100000 in
set_option maxHeartbeats 1000000 in
theorem awake_any (w : World) (hp : PrL w) : Calls Tryd.prog 14 #[] w fun e w' => e = .returned (.bool true) ∧ Below w.heap.size w w' := by
  have hs1 := fun W => Sign_two 3 12 2 (-19) W 1 rfl (sgn_up (by decide))
  have hs2 := fun W => Sign_two 8 2 4 (-3) W 0 rfl (sgn_zero (by decide))
  have hof := fun W h => lawOf_any 3 2 W h
  rw [of32] at hof
  have hct := fun W h => Cents_any (-1) 1 0 0 0 0 1 W h
  have herr : Rt.err ⟨⟨-1, 1, 0, 0, 0, 0⟩, 1⟩ = 0 := by decide +kernel
  have hval : ∀ m b er, FlW ⟨-1, 1, 0, 0, 0, 0⟩ 1200000 1 m b er → er = 0 ∧ m = 701955 ∧ b = false := fun m b er hw => by
    obtain ⟨h1, h2, h3⟩ := cents_val (v := fifthV) (B := 1) (by omega) (by omega) (by decide) (by decide) hw fifth_is
    refine ⟨h1, h2, ?_⟩
    rw [h3]
    have := fifth_Fl
    simp only [beq_eq_false_iff_ne]
    omega
  have hct2 : ∀ W, PrL W → Calls Tryd.prog 36 #[.agg #[.int .i64 (-1), .int .i64 1, .int .i64 0, .int .i64 0, .int .i64 0, .int .i64 0, .int .i64 1]] W fun e w' => e = .returned (.tuple #[.int .i64 701955, .bool false, .int .i64 0]) ∧ Below W.heap.size W w' := fun W h => by
    refine (hct W h).mono ?_
    rintro e w' (⟨-, m, b, er, he, hw, hb⟩ | ⟨h1, -⟩)
    · obtain ⟨rfl, rfl, rfl⟩ := hval m b er hw
      exact ⟨he, hb⟩
    · exact absurd herr h1
  have HS1 := Lib.hid hs1
  have HS2 := Lib.hid hs2
  have HOF := Lib.hid hof
  have HCT := Lib.hid hct2
  have HP := Lib.hid hp
  clear hs1 hs2 hof hct herr hval hct2 hp
  go_enter Tryd.func14, Tryd.ntmps14
  go_wp2_with fail
  refine (HS1.out _).mono ?_
  rintro e w1 ⟨he, hb1⟩
  subst he
  have HB1 := Lib.hid hb1
  clear hb1
  go_wp2_with fail
  refine (HS2.out _).mono ?_
  rintro e w2 ⟨he, hb2⟩
  subst he
  have HB2 := Lib.hid (HB1.out.trans (hb2.mono HB1.out.size))
  clear hb2 HB1
  go_wp2_with fail
  refine (HOF.out _ (HP.out.below HB2.out)).mono ?_
  rintro e w3 ⟨he, hb3⟩
  unfold rtv fifthV at he
  simp only at he
  subst he
  have HB3 := Lib.hid (HB2.out.trans (hb3.mono HB2.out.size))
  clear hb3 HB2
  go_wp2_with fail
  refine (HCT.out _ (HP.out.below HB3.out)).mono ?_
  rintro e w4 ⟨he, hb4⟩
  subst he
  have HB4 := Lib.hid (HB3.out.trans (hb4.mono HB3.out.size))
  clear hb4 HB3
  go_wp2
  go_ret
  exact ⟨rfl, HB4.out⟩
end Go.Proofs.YtokkcmadgcdpiaaDoor
