import Derived.Test.YtkoghdgfllichaaDoorTA6
import Derived.Test.YtkoghdgfllichaaDoorKD1
namespace Go.Proofs.YtkoghdgfllichaaDoor.Tp
open Go.RowKit

def cR (r : Rt) : Value := .agg (cellsR r).toArray
set_option maxRecDepth 100000 in
set_option maxHeartbeats 1000000 in
theorem ratio_any (num den : Int) (w : World) (hp : PrL w) :
    Calls Tryd.prog 93 #[.int .i64 num, .int .i64 den] w fun e w' => e = .returned (cR (ofW num den).1) ∧ Below w.heap.size w w' := by
  have HOF := Lib.hid (fun W (h : PrL W) => Of_any num den W h)
  have HP := Lib.hid hp
  clear hp
  generalize ofW num den = RW at *
  have hr0 : RowI (w.alloc (.cells #[.int .i64 0, .int .i64 0, .int .i64 0, .int .i64 0, .int .i64 0, .int .i64 0, .int .i64 0] 24)) (w.heap.size) 24 [0, 0, 0, 0, 0, 0, 0] := by
    have h := RowI.of_alloc w 24 [0, 0, 0, 0, 0, 0, 0]
    try simp only [World.size_alloc] at h
    exact h
  have hb0 : Below w.heap.size w (w.alloc (.cells #[.int .i64 0, .int .i64 0, .int .i64 0, .int .i64 0, .int .i64 0, .int .i64 0, .int .i64 0] 24)) := (belA w _)
  have HR := Lib.hid hr0
  have HB := Lib.hid hb0
  clear hr0 hb0
  go_enter Tryd.func93, Tryd.ntmps93
  go_wp2_with fail
  refine (HOF.out _ (HP.out.below (HB.out.mono (Nat.le_refl _)))).mono ?_
  rintro e w1 ⟨he, hb1⟩
  obtain ⟨⟨⟨r0, r1, r2, r3, r4, r5⟩, rd⟩, re⟩ := RW
  unfold rtv at he
  simp only at he
  subst he
  have hr := ((HR.out.up hb1).alloc (.cells #[.int .i64 r0, .int .i64 r1, .int .i64 r2, .int .i64 r3, .int .i64 r4, .int .i64 r5, .int .i64 rd] 24))
  have hb : Below w.heap.size w (w1.alloc (.cells #[.int .i64 r0, .int .i64 r1, .int .i64 r2, .int .i64 r3, .int .i64 r4, .int .i64 r5, .int .i64 rd] 24)) := by
    have h1 := HB.out.trans (hb1.mono (by simp))
    exact h1.trans ((belA w1 _).mono h1.size)
  clear HR HB hb1
  obtain ⟨c0, c1, c2, c3, c4, c5, c6⟩ := hr.r7
  simp only [Nat.zero_add] at c0 c1 c2 c3 c4 c5 c6
  have f0 := hr.frozen 0
  have f1 := hr.frozen 1
  have f2 := hr.frozen 2
  have f3 := hr.frozen 3
  have f4 := hr.frozen 4
  have f5 := hr.frozen 5
  have f6 := hr.frozen 6
  have HR := Lib.hid hr
  have HB := Lib.hid hb
  clear hr hb
  go_wp2
  change bodyPost _ _ _ _ _ (putR _ w.heap.size r0 r1 r2 r3 r4 r5 rd)
  clear c0 c1 c2 c3 c4 c5 c6
  obtain ⟨c0, c1, c2, c3, c4, c5, c6⟩ := (putR_row HR.out r0 r1 r2 r3 r4 r5 rd).r7
  have hB := putR_below HB.out (show w.heap.size ≤ w.heap.size by omega) r0 r1 r2 r3 r4 r5 rd
  generalize putR _ w.heap.size r0 r1 r2 r3 r4 r5 rd = W' at *
  simp only [Nat.zero_add] at c0 c1 c2 c3 c4 c5 c6
  refine bodyPost_ret (v := .agg #[.int .i64 r0, .int .i64 r1, .int .i64 r2, .int .i64 r3, .int .i64 r4, .int .i64 r5, .int .i64 rd]) (by simp [results, Tryd.results93, c0, c1, c2, c3, c4, c5, c6, go_sem]) rfl ⟨rfl, hB⟩
set_option maxRecDepth 100000 in
set_option maxHeartbeats 1000000 in
theorem mul_any' (x0 x1 x2 x3 x4 x5 xd y0 y1 y2 y3 y4 y5 yd : Int) (w : World) :
    Calls Tryd.prog 98 #[.agg #[.int .i64 x0, .int .i64 x1, .int .i64 x2, .int .i64 x3, .int .i64 x4, .int .i64 x5, .int .i64 xd], .agg #[.int .i64 y0, .int .i64 y1, .int .i64 y2, .int .i64 y3, .int .i64 y4, .int .i64 y5, .int .i64 yd]] w fun e w' => e = .returned (cR (bothW ⟨⟨x0, x1, x2, x3, x4, x5⟩, xd⟩ ⟨⟨y0, y1, y2, y3, y4, y5⟩, yd⟩ 1).1) ∧ Below w.heap.size w w' := by
  have HOF := Lib.hid (fun W => Mul_any x0 x1 x2 x3 x4 x5 xd y0 y1 y2 y3 y4 y5 yd W)
  generalize bothW ⟨⟨x0, x1, x2, x3, x4, x5⟩, xd⟩ ⟨⟨y0, y1, y2, y3, y4, y5⟩, yd⟩ 1 = RW at *
  have hr0 : RowI (((w.alloc (.cells #[.int .i64 x0, .int .i64 x1, .int .i64 x2, .int .i64 x3, .int .i64 x4, .int .i64 x5, .int .i64 xd] 24)).alloc (.cells #[.int .i64 y0, .int .i64 y1, .int .i64 y2, .int .i64 y3, .int .i64 y4, .int .i64 y5, .int .i64 yd] 24)).alloc (.cells #[.int .i64 0, .int .i64 0, .int .i64 0, .int .i64 0, .int .i64 0, .int .i64 0, .int .i64 0] 24)) (w.heap.size + 1 + 1) 24 [0, 0, 0, 0, 0, 0, 0] := by
    have h := RowI.of_alloc ((w.alloc (.cells #[.int .i64 x0, .int .i64 x1, .int .i64 x2, .int .i64 x3, .int .i64 x4, .int .i64 x5, .int .i64 xd] 24)).alloc (.cells #[.int .i64 y0, .int .i64 y1, .int .i64 y2, .int .i64 y3, .int .i64 y4, .int .i64 y5, .int .i64 yd] 24)) 24 [0, 0, 0, 0, 0, 0, 0]
    try simp only [World.size_alloc] at h
    exact h
  have hb0 : Below w.heap.size w (((w.alloc (.cells #[.int .i64 x0, .int .i64 x1, .int .i64 x2, .int .i64 x3, .int .i64 x4, .int .i64 x5, .int .i64 xd] 24)).alloc (.cells #[.int .i64 y0, .int .i64 y1, .int .i64 y2, .int .i64 y3, .int .i64 y4, .int .i64 y5, .int .i64 yd] 24)).alloc (.cells #[.int .i64 0, .int .i64 0, .int .i64 0, .int .i64 0, .int .i64 0, .int .i64 0, .int .i64 0] 24)) := (((belA w _)).alloc (by simp) _).alloc (by simp; omega) _
  have HR := Lib.hid hr0
  have HB := Lib.hid hb0
  clear hr0 hb0
  go_enter Tryd.func98, Tryd.ntmps98
  go_wp2_with fail
  refine (HOF.out _).mono ?_
  rintro e w1 ⟨he, hb1⟩
  obtain ⟨⟨⟨r0, r1, r2, r3, r4, r5⟩, rd⟩, re⟩ := RW
  unfold rtv at he
  simp only at he
  subst he
  have hr := ((HR.out.up hb1).alloc (.cells #[.int .i64 r0, .int .i64 r1, .int .i64 r2, .int .i64 r3, .int .i64 r4, .int .i64 r5, .int .i64 rd] 24))
  have hb : Below w.heap.size w (w1.alloc (.cells #[.int .i64 r0, .int .i64 r1, .int .i64 r2, .int .i64 r3, .int .i64 r4, .int .i64 r5, .int .i64 rd] 24)) := by
    have h1 := HB.out.trans (hb1.mono (by simp; omega))
    exact h1.trans ((belA w1 _).mono h1.size)
  clear HR HB hb1
  obtain ⟨c0, c1, c2, c3, c4, c5, c6⟩ := hr.r7
  simp only [Nat.zero_add] at c0 c1 c2 c3 c4 c5 c6
  have f0 := hr.frozen 0
  have f1 := hr.frozen 1
  have f2 := hr.frozen 2
  have f3 := hr.frozen 3
  have f4 := hr.frozen 4
  have f5 := hr.frozen 5
  have f6 := hr.frozen 6
  have HR := Lib.hid hr
  have HB := Lib.hid hb
  clear hr hb
  go_wp2
  change bodyPost _ _ _ _ _ (putR _ (w.heap.size + 1 + 1) r0 r1 r2 r3 r4 r5 rd)
  clear c0 c1 c2 c3 c4 c5 c6
  obtain ⟨c0, c1, c2, c3, c4, c5, c6⟩ := (putR_row HR.out r0 r1 r2 r3 r4 r5 rd).r7
  have hB := putR_below HB.out (show w.heap.size ≤ (w.heap.size + 1 + 1) by omega) r0 r1 r2 r3 r4 r5 rd
  generalize putR _ (w.heap.size + 1 + 1) r0 r1 r2 r3 r4 r5 rd = W' at *
  simp only [Nat.zero_add] at c0 c1 c2 c3 c4 c5 c6
  refine bodyPost_ret (v := .agg #[.int .i64 r0, .int .i64 r1, .int .i64 r2, .int .i64 r3, .int .i64 r4, .int .i64 r5, .int .i64 rd]) (by simp [results, Tryd.results98, c0, c1, c2, c3, c4, c5, c6, go_sem]) rfl ⟨rfl, hB⟩
set_option maxRecDepth 100000 in
set_option maxHeartbeats 1000000 in
theorem div_any' (x0 x1 x2 x3 x4 x5 xd y0 y1 y2 y3 y4 y5 yd : Int) (w : World) :
    Calls Tryd.prog 94 #[.agg #[.int .i64 x0, .int .i64 x1, .int .i64 x2, .int .i64 x3, .int .i64 x4, .int .i64 x5, .int .i64 xd], .agg #[.int .i64 y0, .int .i64 y1, .int .i64 y2, .int .i64 y3, .int .i64 y4, .int .i64 y5, .int .i64 yd]] w fun e w' => e = .returned (cR (bothW ⟨⟨x0, x1, x2, x3, x4, x5⟩, xd⟩ ⟨⟨y0, y1, y2, y3, y4, y5⟩, yd⟩ (-1)).1) ∧ Below w.heap.size w w' := by
  have HOF := Lib.hid (fun W => Div_any x0 x1 x2 x3 x4 x5 xd y0 y1 y2 y3 y4 y5 yd W)
  generalize bothW ⟨⟨x0, x1, x2, x3, x4, x5⟩, xd⟩ ⟨⟨y0, y1, y2, y3, y4, y5⟩, yd⟩ (-1) = RW at *
  have hr0 : RowI (((w.alloc (.cells #[.int .i64 x0, .int .i64 x1, .int .i64 x2, .int .i64 x3, .int .i64 x4, .int .i64 x5, .int .i64 xd] 24)).alloc (.cells #[.int .i64 y0, .int .i64 y1, .int .i64 y2, .int .i64 y3, .int .i64 y4, .int .i64 y5, .int .i64 yd] 24)).alloc (.cells #[.int .i64 0, .int .i64 0, .int .i64 0, .int .i64 0, .int .i64 0, .int .i64 0, .int .i64 0] 24)) (w.heap.size + 1 + 1) 24 [0, 0, 0, 0, 0, 0, 0] := by
    have h := RowI.of_alloc ((w.alloc (.cells #[.int .i64 x0, .int .i64 x1, .int .i64 x2, .int .i64 x3, .int .i64 x4, .int .i64 x5, .int .i64 xd] 24)).alloc (.cells #[.int .i64 y0, .int .i64 y1, .int .i64 y2, .int .i64 y3, .int .i64 y4, .int .i64 y5, .int .i64 yd] 24)) 24 [0, 0, 0, 0, 0, 0, 0]
    try simp only [World.size_alloc] at h
    exact h
  have hb0 : Below w.heap.size w (((w.alloc (.cells #[.int .i64 x0, .int .i64 x1, .int .i64 x2, .int .i64 x3, .int .i64 x4, .int .i64 x5, .int .i64 xd] 24)).alloc (.cells #[.int .i64 y0, .int .i64 y1, .int .i64 y2, .int .i64 y3, .int .i64 y4, .int .i64 y5, .int .i64 yd] 24)).alloc (.cells #[.int .i64 0, .int .i64 0, .int .i64 0, .int .i64 0, .int .i64 0, .int .i64 0, .int .i64 0] 24)) := (((belA w _)).alloc (by simp) _).alloc (by simp; omega) _
  have HR := Lib.hid hr0
  have HB := Lib.hid hb0
  clear hr0 hb0
  go_enter Tryd.func94, Tryd.ntmps94
  go_wp2_with fail
  refine (HOF.out _).mono ?_
  rintro e w1 ⟨he, hb1⟩
  obtain ⟨⟨⟨r0, r1, r2, r3, r4, r5⟩, rd⟩, re⟩ := RW
  unfold rtv at he
  simp only at he
  subst he
  have hr := ((HR.out.up hb1).alloc (.cells #[.int .i64 r0, .int .i64 r1, .int .i64 r2, .int .i64 r3, .int .i64 r4, .int .i64 r5, .int .i64 rd] 24))
  have hb : Below w.heap.size w (w1.alloc (.cells #[.int .i64 r0, .int .i64 r1, .int .i64 r2, .int .i64 r3, .int .i64 r4, .int .i64 r5, .int .i64 rd] 24)) := by
    have h1 := HB.out.trans (hb1.mono (by simp; omega))
    exact h1.trans ((belA w1 _).mono h1.size)
  clear HR HB hb1
  obtain ⟨c0, c1, c2, c3, c4, c5, c6⟩ := hr.r7
  simp only [Nat.zero_add] at c0 c1 c2 c3 c4 c5 c6
  have f0 := hr.frozen 0
  have f1 := hr.frozen 1
  have f2 := hr.frozen 2
  have f3 := hr.frozen 3
  have f4 := hr.frozen 4
  have f5 := hr.frozen 5
  have f6 := hr.frozen 6
  have HR := Lib.hid hr
  have HB := Lib.hid hb
  clear hr hb
  go_wp2
  change bodyPost _ _ _ _ _ (putR _ (w.heap.size + 1 + 1) r0 r1 r2 r3 r4 r5 rd)
  clear c0 c1 c2 c3 c4 c5 c6
  obtain ⟨c0, c1, c2, c3, c4, c5, c6⟩ := (putR_row HR.out r0 r1 r2 r3 r4 r5 rd).r7
  have hB := putR_below HB.out (show w.heap.size ≤ (w.heap.size + 1 + 1) by omega) r0 r1 r2 r3 r4 r5 rd
  generalize putR _ (w.heap.size + 1 + 1) r0 r1 r2 r3 r4 r5 rd = W' at *
  simp only [Nat.zero_add] at c0 c1 c2 c3 c4 c5 c6
  refine bodyPost_ret (v := .agg #[.int .i64 r0, .int .i64 r1, .int .i64 r2, .int .i64 r3, .int .i64 r4, .int .i64 r5, .int .i64 rd]) (by simp [results, Tryd.results94, c0, c1, c2, c3, c4, c5, c6, go_sem]) rfl ⟨rfl, hB⟩
set_option maxRecDepth 100000 in
set_option maxHeartbeats 1000000 in
theorem pow_any' (x0 x1 x2 x3 x4 x5 xd n d : Int) (w : World) :
    Calls Tryd.prog 95 #[.agg #[.int .i64 x0, .int .i64 x1, .int .i64 x2, .int .i64 x3, .int .i64 x4, .int .i64 x5, .int .i64 xd], .agg #[.int .i64 n, .int .i64 d]] w fun e w' => e = .returned (cR (rpowW ⟨⟨x0, x1, x2, x3, x4, x5⟩, xd⟩ n d).1) ∧ Below w.heap.size w w' := by
  have HOF := Lib.hid (fun W => Pow_any x0 x1 x2 x3 x4 x5 xd n d W)
  generalize rpowW ⟨⟨x0, x1, x2, x3, x4, x5⟩, xd⟩ n d = RW at *
  have hr0 : RowI (((w.alloc (.cells #[.int .i64 x0, .int .i64 x1, .int .i64 x2, .int .i64 x3, .int .i64 x4, .int .i64 x5, .int .i64 xd] 24)).alloc (.cells #[.int .i64 n, .int .i64 d] 35)).alloc (.cells #[.int .i64 0, .int .i64 0, .int .i64 0, .int .i64 0, .int .i64 0, .int .i64 0, .int .i64 0] 24)) (w.heap.size + 1 + 1) 24 [0, 0, 0, 0, 0, 0, 0] := by
    have h := RowI.of_alloc ((w.alloc (.cells #[.int .i64 x0, .int .i64 x1, .int .i64 x2, .int .i64 x3, .int .i64 x4, .int .i64 x5, .int .i64 xd] 24)).alloc (.cells #[.int .i64 n, .int .i64 d] 35)) 24 [0, 0, 0, 0, 0, 0, 0]
    try simp only [World.size_alloc] at h
    exact h
  have hb0 : Below w.heap.size w (((w.alloc (.cells #[.int .i64 x0, .int .i64 x1, .int .i64 x2, .int .i64 x3, .int .i64 x4, .int .i64 x5, .int .i64 xd] 24)).alloc (.cells #[.int .i64 n, .int .i64 d] 35)).alloc (.cells #[.int .i64 0, .int .i64 0, .int .i64 0, .int .i64 0, .int .i64 0, .int .i64 0, .int .i64 0] 24)) := (((belA w _)).alloc (by simp) _).alloc (by simp; omega) _
  have HR := Lib.hid hr0
  have HB := Lib.hid hb0
  clear hr0 hb0
  go_enter Tryd.func95, Tryd.ntmps95
  go_wp2_with fail
  refine (HOF.out _).mono ?_
  rintro e w1 ⟨he, hb1⟩
  obtain ⟨⟨⟨r0, r1, r2, r3, r4, r5⟩, rd⟩, re⟩ := RW
  unfold rtv at he
  simp only at he
  subst he
  have hr := ((HR.out.up hb1).alloc (.cells #[.int .i64 r0, .int .i64 r1, .int .i64 r2, .int .i64 r3, .int .i64 r4, .int .i64 r5, .int .i64 rd] 24))
  have hb : Below w.heap.size w (w1.alloc (.cells #[.int .i64 r0, .int .i64 r1, .int .i64 r2, .int .i64 r3, .int .i64 r4, .int .i64 r5, .int .i64 rd] 24)) := by
    have h1 := HB.out.trans (hb1.mono (by simp; omega))
    exact h1.trans ((belA w1 _).mono h1.size)
  clear HR HB hb1
  obtain ⟨c0, c1, c2, c3, c4, c5, c6⟩ := hr.r7
  simp only [Nat.zero_add] at c0 c1 c2 c3 c4 c5 c6
  have f0 := hr.frozen 0
  have f1 := hr.frozen 1
  have f2 := hr.frozen 2
  have f3 := hr.frozen 3
  have f4 := hr.frozen 4
  have f5 := hr.frozen 5
  have f6 := hr.frozen 6
  have HR := Lib.hid hr
  have HB := Lib.hid hb
  clear hr hb
  go_wp2
  change bodyPost _ _ _ _ _ (putR _ (w.heap.size + 1 + 1) r0 r1 r2 r3 r4 r5 rd)
  clear c0 c1 c2 c3 c4 c5 c6
  obtain ⟨c0, c1, c2, c3, c4, c5, c6⟩ := (putR_row HR.out r0 r1 r2 r3 r4 r5 rd).r7
  have hB := putR_below HB.out (show w.heap.size ≤ (w.heap.size + 1 + 1) by omega) r0 r1 r2 r3 r4 r5 rd
  generalize putR _ (w.heap.size + 1 + 1) r0 r1 r2 r3 r4 r5 rd = W' at *
  simp only [Nat.zero_add] at c0 c1 c2 c3 c4 c5 c6
  refine bodyPost_ret (v := .agg #[.int .i64 r0, .int .i64 r1, .int .i64 r2, .int .i64 r3, .int .i64 r4, .int .i64 r5, .int .i64 rd]) (by simp [results, Tryd.results95, c0, c1, c2, c3, c4, c5, c6, go_sem]) rfl ⟨rfl, hB⟩
/-- What fold returns. -/
def FoldIs (x r : Rt) : Prop := x.Ok → ∃ k, FlIs x.v 1 x.d k ∧ ((foR x k).fits = true → r = foR x k)
def FoldP (w : World) (x : Rt) (e : Ending) (w' : World) : Prop := ∃ r, FoldIs x r ∧ e = .returned (cR r) ∧ Below w.heap.size w w'
theorem Fold_u (x0 x1 x2 x3 x4 x5 xd : Int) (w : World) (hp : PrL w) :
    Calls Tryd.prog 10 #[.agg #[.int .i64 x0, .int .i64 x1, .int .i64 x2, .int .i64 x3, .int .i64 x4, .int .i64 x5, .int .i64 xd]] w fun e w' => ∃ (r : Rt) (k er : Int), FoldIs ⟨⟨x0, x1, x2, x3, x4, x5⟩, xd⟩ r ∧ e = .returned (.tuple #[rtv r, .int .i64 k, .int .i64 er]) ∧ Below w.heap.size w w' := by
  refine (Fold_any x0 x1 x2 x3 x4 x5 xd w hp).mono ?_
  rintro e w' (⟨h0, k, hk, -, -, hb, h⟩ | ⟨h0, he, hb⟩)
  · rcases h with ⟨hf, he⟩ | ⟨hf, he⟩
    · exact ⟨foR _ k, k, 0, fun _ => ⟨k, hk, fun _ => rfl⟩, he, hb⟩
    · exact ⟨Rt.zero, 0, 7, fun _ => ⟨k, hk, fun h => by rw [hf] at h; cases h⟩, he, hb⟩
  · exact ⟨Rt.zero, 0, _, fun h => absurd (Rt.ok_iff.2 h) h0, he, hb⟩
set_option maxRecDepth 100000 in
set_option maxHeartbeats 1000000 in
theorem fold_any' (x0 x1 x2 x3 x4 x5 xd : Int) (w : World) (hp : PrL w) :
    Calls Tryd.prog 97 #[.agg #[.int .i64 x0, .int .i64 x1, .int .i64 x2, .int .i64 x3, .int .i64 x4, .int .i64 x5, .int .i64 xd]] w fun e w' => FoldP w ⟨⟨x0, x1, x2, x3, x4, x5⟩, xd⟩ e w' := by
  have HOF := Lib.hid (fun W (h : PrL W) => Fold_u x0 x1 x2 x3 x4 x5 xd W h)
  have HP := Lib.hid hp
  clear hp
  have hr0 : RowI ((w.alloc (.cells #[.int .i64 x0, .int .i64 x1, .int .i64 x2, .int .i64 x3, .int .i64 x4, .int .i64 x5, .int .i64 xd] 24)).alloc (.cells #[.int .i64 0, .int .i64 0, .int .i64 0, .int .i64 0, .int .i64 0, .int .i64 0, .int .i64 0] 24)) (w.heap.size + 1) 24 [0, 0, 0, 0, 0, 0, 0] := by
    have h := RowI.of_alloc (w.alloc (.cells #[.int .i64 x0, .int .i64 x1, .int .i64 x2, .int .i64 x3, .int .i64 x4, .int .i64 x5, .int .i64 xd] 24)) 24 [0, 0, 0, 0, 0, 0, 0]
    try simp only [World.size_alloc] at h
    exact h
  have hb0 : Below w.heap.size w ((w.alloc (.cells #[.int .i64 x0, .int .i64 x1, .int .i64 x2, .int .i64 x3, .int .i64 x4, .int .i64 x5, .int .i64 xd] 24)).alloc (.cells #[.int .i64 0, .int .i64 0, .int .i64 0, .int .i64 0, .int .i64 0, .int .i64 0, .int .i64 0] 24)) := ((belA w _)).alloc (by simp) _
  have HR := Lib.hid hr0
  have HB := Lib.hid hb0
  clear hr0 hb0
  go_enter Tryd.func97, Tryd.ntmps97
  go_wp2_with fail
  refine (HOF.out _ (HP.out.below (HB.out.mono (Nat.le_refl _)))).mono ?_
  rintro e w1 ⟨⟨⟨r0, r1, r2, r3, r4, r5⟩, rd⟩, k, er, hf, he, hb1⟩
  unfold rtv at he
  simp only at he
  subst he
  have HF := Lib.hid hf
  clear hf
  have hr := ((HR.out.up hb1).alloc (.cells #[.int .i64 r0, .int .i64 r1, .int .i64 r2, .int .i64 r3, .int .i64 r4, .int .i64 r5, .int .i64 rd] 24))
  have hb : Below w.heap.size w (w1.alloc (.cells #[.int .i64 r0, .int .i64 r1, .int .i64 r2, .int .i64 r3, .int .i64 r4, .int .i64 r5, .int .i64 rd] 24)) := by
    have h1 := HB.out.trans (hb1.mono (by simp; omega))
    exact h1.trans ((belA w1 _).mono h1.size)
  clear HR HB hb1
  obtain ⟨c0, c1, c2, c3, c4, c5, c6⟩ := hr.r7
  simp only [Nat.zero_add] at c0 c1 c2 c3 c4 c5 c6
  have f0 := hr.frozen 0
  have f1 := hr.frozen 1
  have f2 := hr.frozen 2
  have f3 := hr.frozen 3
  have f4 := hr.frozen 4
  have f5 := hr.frozen 5
  have f6 := hr.frozen 6
  have HR := Lib.hid hr
  have HB := Lib.hid hb
  clear hr hb
  go_wp2
  change bodyPost _ _ _ _ _ (putR _ (w.heap.size + 1) r0 r1 r2 r3 r4 r5 rd)
  clear c0 c1 c2 c3 c4 c5 c6
  obtain ⟨c0, c1, c2, c3, c4, c5, c6⟩ := (putR_row HR.out r0 r1 r2 r3 r4 r5 rd).r7
  have hB := putR_below HB.out (show w.heap.size ≤ (w.heap.size + 1) by omega) r0 r1 r2 r3 r4 r5 rd
  generalize putR _ (w.heap.size + 1) r0 r1 r2 r3 r4 r5 rd = W' at *
  simp only [Nat.zero_add] at c0 c1 c2 c3 c4 c5 c6
  refine bodyPost_ret (v := .agg #[.int .i64 r0, .int .i64 r1, .int .i64 r2, .int .i64 r3, .int .i64 r4, .int .i64 r5, .int .i64 rd]) (by simp [results, Tryd.results97, c0, c1, c2, c3, c4, c5, c6, go_sem]) rfl ⟨_, HF.out, rfl, hB⟩
def CentIs (x : Rt) (m : Int) : Prop := x.Ok → ∃ b er, FlW x.v 1200000 x.d m b er
def CentP (w : World) (x : Rt) (e : Ending) (w' : World) : Prop := ∃ m, CentIs x m ∧ e = .returned (.int .i64 m) ∧ Below w.heap.size w w'
theorem Cents_v (x0 x1 x2 x3 x4 x5 xd : Int) (w : World) (hp : PrL w) :
    Calls Tryd.prog 12 #[.agg #[.int .i64 x0, .int .i64 x1, .int .i64 x2, .int .i64 x3, .int .i64 x4, .int .i64 x5, .int .i64 xd]] w fun e w' => ∃ (m : Int) (b : Bool) (er : Int), CentIs ⟨⟨x0, x1, x2, x3, x4, x5⟩, xd⟩ m ∧ e = .returned (.tuple #[.int .i64 m, .bool b, .int .i64 er]) ∧ Below w.heap.size w w' := by
  refine (Cents_any x0 x1 x2 x3 x4 x5 xd w hp).mono ?_
  rintro e w' (⟨h0, m, b, er, he, hw, hb⟩ | ⟨h0, he, hb⟩)
  · exact ⟨m, b, er, fun _ => ⟨b, er, hw⟩, he, hb⟩
  · exact ⟨0, false, _, fun h => absurd (Rt.ok_iff.2 h) h0, he, hb⟩
set_option maxRecDepth 100000 in
set_option maxHeartbeats 1000000 in
theorem cents_any' (x0 x1 x2 x3 x4 x5 xd : Int) (w : World) (hp : PrL w) :
    Calls Tryd.prog 122 #[.agg #[.int .i64 x0, .int .i64 x1, .int .i64 x2, .int .i64 x3, .int .i64 x4, .int .i64 x5, .int .i64 xd]] w fun e w' => CentP w ⟨⟨x0, x1, x2, x3, x4, x5⟩, xd⟩ e w' := by
  have HOF := Lib.hid (fun W (h : PrL W) => Cents_v x0 x1 x2 x3 x4 x5 xd W h)
  have HP := Lib.hid hp
  have HB := Lib.hid (belA w (.cells #[.int .i64 x0, .int .i64 x1, .int .i64 x2, .int .i64 x3, .int .i64 x4, .int .i64 x5, .int .i64 xd] 24))
  clear hp
  go_enter Tryd.func122, Tryd.ntmps122
  go_wp2_with fail
  refine (HOF.out _ (HP.out.below HB.out)).mono ?_
  rintro e w1 ⟨m, b, er, hc, he, hb1⟩
  subst he
  have hb := HB.out.trans (hb1.mono (by simp))
  have HC := Lib.hid hc
  have HB := Lib.hid hb
  clear hb hb1 hc
  go_wp2
  go_ret
  exact ⟨m, HC.out, rfl, HB.out⟩
end Go.Proofs.YtkoghdgfllichaaDoor.Tp
namespace Go.Proofs.YtkoghdgfllichaaDoor.Tp
open Go.RowKit

def fl7 (rs : List Rt) : List Value := rs.flatMap cellsR
theorem fl7_len (rs : List Rt) : (fl7 rs).length = 7 * rs.length := by
  induction rs with
  | nil => rfl
  | cons p r ih => show ((cellsR p ++ fl7 r).length : Nat) = 7 * (r.length + 1); rw [List.length_append, ih]; show 7 + _ = _; omega
theorem fl7_drop : ∀ (rs : List Rt) (i : Nat), (fl7 rs).drop (i * 7) = fl7 (rs.drop i)
  | rs, 0 => by simp
  | [], i + 1 => by simp [fl7]
  | p :: r, i + 1 => by
    show (cellsR p ++ fl7 r).drop ((i + 1) * 7) = fl7 (r.drop i)
    rw [show (i + 1) * 7 = (cellsR p).length + i * 7 by show _ = 7 + i * 7; omega, List.drop_append, ← fl7_drop r i]
    simp
theorem fl7_take : ∀ (rs : List Rt) (i : Nat), (fl7 rs).take (i * 7) = fl7 (rs.take i)
  | rs, 0 => by simp [fl7]
  | [], i + 1 => by simp [fl7]
  | p :: r, i + 1 => by
    show (cellsR p ++ fl7 r).take ((i + 1) * 7) = cellsR p ++ fl7 (r.take i)
    rw [show (i + 1) * 7 = (cellsR p).length + i * 7 by show _ = 7 + i * 7; omega, List.take_append, ← fl7_take r i, List.take_of_length_le (by omega), Nat.add_sub_cancel_left]
theorem fl7_at {rs : List Rt} {i : Nat} {r : Rt} (h : rs[i]? = some r) : ((fl7 rs).drop (i * 7)).take 7 = cellsR r := by
  rw [fl7_drop]
  have hi := (List.getElem?_eq_some_iff.1 h).1
  rw [List.drop_eq_getElem_cons hi]
  have hr : rs[i] = r := (List.getElem?_eq_some_iff.1 h).2
  rw [hr]
  show (cellsR r ++ fl7 (rs.drop (i + 1))).take 7 = _
  rw [List.take_append]
  show (cellsR r).take 7 ++ _ = _
  simp [cellsR]
theorem fl7_cell {rs : List Rt} {i : Nat} {r : Rt} (h : rs[i]? = some r) {j : Nat} {v : Value} (hv : (cellsR r)[j]? = some v) : (fl7 rs)[i * 7 + j]? = some v := by
  have hj : j < 7 := (List.getElem?_eq_some_iff.1 hv).1
  rw [← fl7_at h, List.getElem?_take, if_pos hj, List.getElem?_drop] at hv
  exact hv
theorem fl7_set {rs : List Rt} {i : Nat} (r : Rt) (h : i < rs.length) : (fl7 rs).take (i * 7) ++ cellsR r ++ (fl7 rs).drop (i * 7 + 7) = fl7 (rs.set i r) := by
  rw [show i * 7 + 7 = (i + 1) * 7 by omega, fl7_drop, fl7_take, List.set_eq_take_append_cons_drop, if_pos h]
  show fl7 (rs.take i) ++ cellsR r ++ fl7 (rs.drop (i + 1)) = fl7 (rs.take i ++ r :: rs.drop (i + 1))
  unfold fl7
  rw [List.flatMap_append, List.append_assoc]
  rfl
theorem RowV.setCell {w : World} {g : Nat} {t : TypeId} {L : List Value} (h : RowV w g t L) (i : Nat) (x : Value) : RowV (w.setCell ⟨g, i, none⟩ x) g t (L.set i x) := by
  have e : w.heap[g]? = some (.cells L.toArray t (0, 0)) := h
  show (w.setCell _ _).heap[g]? = _
  simp [World.setCell, Array.getElem?_modify, e]
theorem RowV.setCells {g : Nat} {t : TypeId} : ∀ (vs : List Value) (o : Nat) (w : World) (L : List Value), RowV w g t L → o + vs.length ≤ L.length → RowV (w.setCells g o vs) g t (L.take o ++ vs ++ L.drop (o + vs.length))
  | [], o, w, L, h, _ => by simpa [World.setCells] using h
  | v :: r, o, w, L, h, hl => by
    rw [World.setCells]
    have hl' : o + (r.length + 1) ≤ L.length := hl
    have ih := RowV.setCells r (o + 1) (w.setCell ⟨g, o, none⟩ v) (L.set o v) (h.setCell o v) (by rw [List.length_set]; omega)
    have e : (L.set o v).take (o + 1) ++ r ++ (L.set o v).drop (o + 1 + r.length) = L.take o ++ v :: r ++ L.drop (o + (v :: r).length) := by
      have e1 : (L.set o v).take (o + 1) = L.take o ++ [v] := by
        rw [List.take_add_one, List.take_set_of_le (Nat.le_refl o), List.getElem?_set_self (by omega)]
        rfl
      have e2 : (L.set o v).drop (o + 1 + r.length) = L.drop (o + 1 + r.length) := List.drop_set_of_lt (by omega)
      rw [e1, e2]
      simp [show o + 1 + r.length = o + (r.length + 1) by omega]
    rw [e] at ih
    exact ih
theorem below_setCells {g : Nat} {B : Nat} {w0 : World} : ∀ (vs : List Value) (o : Nat) (w : World), Below B w0 w → B ≤ g → Below B w0 (w.setCells g o vs)
  | [], _, _, h, _ => h
  | v :: r, o, w, h, hg => by rw [World.setCells]; exact below_setCells r (o + 1) _ (h.setCell hg v) hg
theorem RowV.otherCells {g k : Nat} {t : TypeId} {L : List Value} (hne : g ≠ k) : ∀ (vs : List Value) (o : Nat) (w : World), RowV w g t L → RowV (w.setCells k o vs) g t L
  | [], _, _, h => h
  | v :: r, o, w, h => by rw [World.setCells]; exact RowV.otherCells hne r (o + 1) _ ((setCell_heap hne).trans h)
theorem RowV.there {w : World} {g : Nat} {t : TypeId} {L : List Value} (h : RowV w g t L) {o n : Nat} (hl : o + n ≤ L.length) : w.there g o n := fun j hj => by
  have e : w.heap[g]? = some (.cells L.toArray t (0, 0)) := h
  refine ⟨?_, ?_⟩
  · rw [Go.Joins.cell_of_block e]; simp; omega
  · unfold World.frozen?; simp [e]
theorem RowV.at7 {w : World} {g : Nat} {t : TypeId} {rs : List Rt} (h : RowV w g t (fl7 rs)) {i : Nat} {r : Rt} (hr : rs[i]? = some r) : w.rangeAt g (i * 7) (cellsR r) := h.range fun _ _ hv => fl7_cell hr hv
theorem RowV.put7 {w : World} {g : Nat} {t : TypeId} {rs : List Rt} (h : RowV w g t (fl7 rs)) {i : Nat} (r : Rt) (hi : i < rs.length) : RowV (w.setCells g (i * 7) (cellsR r)) g t (fl7 (rs.set i r)) := by
  have h2 := h.setCells (cellsR r) (i * 7) w (fl7 rs) (by rw [fl7_len]; show i * 7 + 7 ≤ _; omega)
  have e := fl7_set (rs := rs) r hi
  have e2 : i * 7 + (cellsR r).length = i * 7 + 7 := rfl
  rw [e2, e] at h2
  exact h2
theorem szR (r : Rt) : (Tryd.prog.info? 24).map (·.size) = some (cellsR r).length := by show _ = some 7; kernel_rfl
theorem sz65 {rs : List Rt} (hl : rs.length = 12) : (Tryd.prog.info? 90).map (·.size) = some (fl7 rs).length := by rw [fl7_len, hl]; kernel_rfl
theorem idx7 {rs : List Rt} {i : Nat} {r : Rt} (hl : rs.length = 12) (h : rs[i]? = some r) (w : World) :
    (Instr.index 90 (.agg (fl7 rs).toArray) (.int .i64 (i : Int))).run Tryd.prog w = .ok (cR r) w := by
  have hi : i < 12 := by have := (List.getElem?_eq_some_iff.1 h).1; omega
  have hx := fl7_at h
  simp [Instr.index, run_underlying Tryd.underlying90, asIntOf, go_sem, part]
  rw [if_pos hi, hx]
  rfl
def cmW (T : Tm) : Rt := if T.sy = true then (ofW 81 80).1 else (ofW 531441 524288).1
end Go.Proofs.YtkoghdgfllichaaDoor.Tp
namespace Go.Proofs.YtkoghdgfllichaaDoor.Tp
open Go.RowKit

set_option maxRecDepth 100000 in
set_option maxHeartbeats 1000000 in
theorem comma_any (T : Tm) (w : World) (hp : PrL w) : Calls Tryd.prog 96 #[.agg (tmV T).toArray] w fun e w' => e = .returned (cR (cmW T)) ∧ Below w.heap.size w w' := by
  have HT := Lib.hid ((RowV.of_alloc w 38 (tmV T)).alloc (.cells #[.int .i64 0, .int .i64 0, .int .i64 0, .int .i64 0, .int .i64 0, .int .i64 0, .int .i64 0] 24))
  have hr0 : RowI ((w.alloc (.cells (tmV T).toArray 38)).alloc (.cells #[.int .i64 0, .int .i64 0, .int .i64 0, .int .i64 0, .int .i64 0, .int .i64 0, .int .i64 0] 24)) (w.heap.size + 1) 24 [0, 0, 0, 0, 0, 0, 0] := by
    have h := RowI.of_alloc (w.alloc (.cells (tmV T).toArray 38)) 24 [0, 0, 0, 0, 0, 0, 0]
    simp only [World.size_alloc] at h
    exact h
  have HR := Lib.hid hr0
  have HB := Lib.hid ((belA w (.cells (tmV T).toArray 38)).alloc (by simp) (.cells #[.int .i64 0, .int .i64 0, .int .i64 0, .int .i64 0, .int .i64 0, .int .i64 0, .int .i64 0] 24))
  have HP := Lib.hid hp
  have HSY := Lib.hid (fun W (h : RowV W w.heap.size 38 (tmV T)) => h.cell (i := 1) (x := .bool T.sy) rfl)
  clear hr0 hp
  generalize tmV T = L at *
  cases hsy : T.sy
  · have e1 : cmW T = (ofW 531441 524288).1 := by unfold cmW; rw [hsy]; rfl
    rw [e1]
    have c1 := HSY.out _ HT.out
    rw [hsy] at c1
    have HOF := Lib.hid (fun W (h : PrL W) => ratio_any 531441 524288 W h)
    clear e1 hsy HSY
    generalize (ofW 531441 524288).1 = RW at *
    go_enter Tryd.func96, Tryd.ntmps96
    go_wp2_with fail
    refine (HOF.out _ (HP.out.below HB.out)).mono ?_
    rintro e w1 ⟨he, hb1⟩
    obtain ⟨⟨r0, r1, r2, r3, r4, r5⟩, rd⟩ := RW
    subst he
    have hr := HR.out.up hb1
    have hb : Below w.heap.size w w1 := HB.out.trans (hb1.mono HB.out.size)
    clear HR HB HT hb1 c1
    obtain ⟨c0, c1, c2, c3, c4, c5, c6⟩ := hr.r7
    simp only [Nat.zero_add] at c0 c1 c2 c3 c4 c5 c6
    have f0 := hr.frozen 0
    have f1 := hr.frozen 1
    have f2 := hr.frozen 2
    have f3 := hr.frozen 3
    have f4 := hr.frozen 4
    have f5 := hr.frozen 5
    have f6 := hr.frozen 6
    have HR := Lib.hid hr
    have HB := Lib.hid hb
    clear hr hb
    unfold cR cellsR
    go_wp2
    change bodyPost _ _ _ _ _ (putR _ (w.heap.size + 1) r0 r1 r2 r3 r4 r5 rd)
    clear c0 c1 c2 c3 c4 c5 c6
    obtain ⟨c0, c1, c2, c3, c4, c5, c6⟩ := (putR_row HR.out r0 r1 r2 r3 r4 r5 rd).r7
    have hB := putR_below HB.out (show w.heap.size ≤ w.heap.size + 1 by omega) r0 r1 r2 r3 r4 r5 rd
    generalize putR _ (w.heap.size + 1) r0 r1 r2 r3 r4 r5 rd = W' at *
    simp only [Nat.zero_add] at c0 c1 c2 c3 c4 c5 c6
    refine bodyPost_ret (v := .agg #[.int .i64 r0, .int .i64 r1, .int .i64 r2, .int .i64 r3, .int .i64 r4, .int .i64 r5, .int .i64 rd]) (by simp [results, Tryd.results96, c0, c1, c2, c3, c4, c5, c6, go_sem]) rfl ⟨rfl, hB⟩
  · have e1 : cmW T = (ofW 81 80).1 := by unfold cmW; rw [hsy]; rfl
    rw [e1]
    have c1 := HSY.out _ HT.out
    rw [hsy] at c1
    have HOF := Lib.hid (fun W (h : PrL W) => ratio_any 81 80 W h)
    clear e1 hsy HSY
    generalize (ofW 81 80).1 = RW at *
    go_enter Tryd.func96, Tryd.ntmps96
    go_wp2_with fail
    refine (HOF.out _ (HP.out.below HB.out)).mono ?_
    rintro e w1 ⟨he, hb1⟩
    obtain ⟨⟨r0, r1, r2, r3, r4, r5⟩, rd⟩ := RW
    subst he
    have hr := HR.out.up hb1
    have hb : Below w.heap.size w w1 := HB.out.trans (hb1.mono HB.out.size)
    clear HR HB HT hb1 c1
    obtain ⟨c0, c1, c2, c3, c4, c5, c6⟩ := hr.r7
    simp only [Nat.zero_add] at c0 c1 c2 c3 c4 c5 c6
    have f0 := hr.frozen 0
    have f1 := hr.frozen 1
    have f2 := hr.frozen 2
    have f3 := hr.frozen 3
    have f4 := hr.frozen 4
    have f5 := hr.frozen 5
    have f6 := hr.frozen 6
    have HR := Lib.hid hr
    have HB := Lib.hid hb
    clear hr hb
    unfold cR cellsR
    go_wp2
    change bodyPost _ _ _ _ _ (putR _ (w.heap.size + 1) r0 r1 r2 r3 r4 r5 rd)
    clear c0 c1 c2 c3 c4 c5 c6
    obtain ⟨c0, c1, c2, c3, c4, c5, c6⟩ := (putR_row HR.out r0 r1 r2 r3 r4 r5 rd).r7
    have hB := putR_below HB.out (show w.heap.size ≤ w.heap.size + 1 by omega) r0 r1 r2 r3 r4 r5 rd
    generalize putR _ (w.heap.size + 1) r0 r1 r2 r3 r4 r5 rd = W' at *
    simp only [Nat.zero_add] at c0 c1 c2 c3 c4 c5 c6
    refine bodyPost_ret (v := .agg #[.int .i64 r0, .int .i64 r1, .int .i64 r2, .int .i64 r3, .int .i64 r4, .int .i64 r5, .int .i64 rd]) (by simp [results, Tryd.results96, c0, c1, c2, c3, c4, c5, c6, go_sem]) rfl ⟨rfl, hB⟩
theorem mulR (x y : Rt) (w : World) : Calls Tryd.prog 98 #[cR x, cR y] w fun e w' => e = .returned (cR (bothW x y 1).1) ∧ Below w.heap.size w w' := mul_any' x.v.a x.v.b x.v.c x.v.d x.v.e x.v.f x.d y.v.a y.v.b y.v.c y.v.d y.v.e y.v.f y.d w
theorem divR (x y : Rt) (w : World) : Calls Tryd.prog 94 #[cR x, cR y] w fun e w' => e = .returned (cR (bothW x y (-1)).1) ∧ Below w.heap.size w w' := div_any' x.v.a x.v.b x.v.c x.v.d x.v.e x.v.f x.d y.v.a y.v.b y.v.c y.v.d y.v.e y.v.f y.d w
theorem powR (x : Rt) (n d : Int) (w : World) : Calls Tryd.prog 95 #[cR x, .agg #[.int .i64 n, .int .i64 d]] w fun e w' => e = .returned (cR (rpowW x n d).1) ∧ Below w.heap.size w w' := pow_any' x.v.a x.v.b x.v.c x.v.d x.v.e x.v.f x.d n d w
theorem foldR (x : Rt) (w : World) (hp : PrL w) : Calls Tryd.prog 97 #[cR x] w fun e w' => FoldP w x e w' := fold_any' x.v.a x.v.b x.v.c x.v.d x.v.e x.v.f x.d w hp
theorem centR (x : Rt) (w : World) (hp : PrL w) : Calls Tryd.prog 122 #[cR x] w fun e w' => CentP w x e w' := cents_any' x.v.a x.v.b x.v.c x.v.d x.v.e x.v.f x.d w hp
end Go.Proofs.YtkoghdgfllichaaDoor.Tp
