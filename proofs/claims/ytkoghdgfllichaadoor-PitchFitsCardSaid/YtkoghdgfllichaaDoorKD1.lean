import Derived.Test.YtkoghdgfllichaaDoorKRA
import Derived.Test.YtkoghdgfllichaaDoorRGB
namespace Go.Proofs.YtkoghdgfllichaaDoor
open Go.RowKit

set_option maxRecDepth 100000 in
set_option maxHeartbeats 400000 in
theorem lawOf_any (num den : Int) (w : World) :
    Calls Tryd.prog 19 #[.int .i64 num, .int .i64 den] w fun e w' => e = .returned (rtv (ofW num den).1) ∧ Below w.heap.size w w' := by
  have hof := fun W => rOf_any num den W
  have HOF := Lib.hid hof
  clear hof
  generalize ofW num den = RW at *
  have HR := Lib.hid (RowI.of_alloc w 24 [0, 0, 0, 0, 0, 0, 0])
  have HB := Lib.hid (belA w (.cells #[.int .i64 0, .int .i64 0, .int .i64 0, .int .i64 0, .int .i64 0, .int .i64 0, .int .i64 0] 24))
  go_enter Tryd.func19, Tryd.ntmps19
  go_wp2_with fail
  refine (HOF.out _).mono ?_
  rintro e w1 ⟨he, hb1⟩
  obtain ⟨⟨⟨r0, r1, r2, r3, r4, r5⟩, rd⟩, re⟩ := RW
  unfold rtv at he
  simp only at he
  subst he
  have hr := ((HR.out.up hb1).alloc (.cells #[.int .i64 r0, .int .i64 r1, .int .i64 r2, .int .i64 r3, .int .i64 r4, .int .i64 r5, .int .i64 rd] 24))
  have hb : Below w.heap.size w (w1.alloc (.cells #[.int .i64 r0, .int .i64 r1, .int .i64 r2, .int .i64 r3, .int .i64 r4, .int .i64 r5, .int .i64 rd] 24)) := by
    have h1 := HB.out.trans (hb1.mono (by simp))
    exact h1.trans ((belA w1 _).mono h1.size)
  clear HR HB hb1
  obtain ⟨c0, c1, c2, c3, c4, c5, c6⟩ := hr.r7
  simp only [Nat.zero_add] at c0 c1 c2 c3 c4 c5 c6
  have f0 := hr.frozen 0
  have f1 := hr.frozen 1
  have f2 := hr.frozen 2
  have f3 := hr.frozen 3
  have f4 := hr.frozen 4
  have f5 := hr.frozen 5
  have f6 := hr.frozen 6
  have HR := Lib.hid hr
  have HB := Lib.hid hb
  clear hr hb
  go_wp2
  change bodyPost _ _ _ _ _ (putR _ w.heap.size r0 r1 r2 r3 r4 r5 rd)
  clear c0 c1 c2 c3 c4 c5 c6
  obtain ⟨c0, c1, c2, c3, c4, c5, c6⟩ := (putR_row HR.out r0 r1 r2 r3 r4 r5 rd).r7
  have hB := putR_below HB.out (Nat.le_refl w.heap.size) r0 r1 r2 r3 r4 r5 rd
  generalize putR _ w.heap.size r0 r1 r2 r3 r4 r5 rd = W' at *
  simp only [Nat.zero_add] at c0 c1 c2 c3 c4 c5 c6
  exact bodyPost_ret (v := .agg #[.int .i64 r0, .int .i64 r1, .int .i64 r2, .int .i64 r3, .int .i64 r4, .int .i64 r5, .int .i64 rd]) (by simp [results, Tryd.results19, c0, c1, c2, c3, c4, c5, c6, go_sem]) rfl ⟨rfl, hB⟩
end Go.Proofs.YtkoghdgfllichaaDoor
