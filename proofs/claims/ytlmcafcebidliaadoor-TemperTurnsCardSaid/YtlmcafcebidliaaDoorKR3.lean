import Derived.Test.YtlmcafcebidliaaDoorKR2
namespace Go.Proofs.YtlmcafcebidliaaDoor
open Go.RowKit

def RbRel (w : World) (B3 : Nat) (X Y : List Int) (xd yd s : Int) (iv : Value) (wr : World) : Prop :=
  ∃ i : Nat, i ≤ 6 ∧ iv = .int .i64 (i : Int) ∧ RowI wr w.heap.size 40 (X ++ [xd]) ∧ RowI wr (w.heap.size + 1) 40 (Y ++ [yd]) ∧ RowI wr (w.heap.size + 1 + 1) 40 [0, 0, 0, 0, 0, 0, 0] ∧ RowI wr B3 70 (mixL (tpL X Y xd yd s) zero6 i) ∧ Below w.heap.size w wr
set_option maxRecDepth 100000 in
set_option maxHeartbeats 4000000 in
theorem both_any (x0 x1 x2 x3 x4 x5 xd y0 y1 y2 y3 y4 y5 yd s : Int) (w : World) (hs : s = 1 ∨ s = -1) :
    Calls Tryd.prog 38 #[.agg #[.int .i64 x0, .int .i64 x1, .int .i64 x2, .int .i64 x3, .int .i64 x4, .int .i64 x5, .int .i64 xd], .agg #[.int .i64 y0, .int .i64 y1, .int .i64 y2, .int .i64 y3, .int .i64 y4, .int .i64 y5, .int .i64 yd], .int .i64 s] w (RtPost w (bothW ⟨⟨x0, x1, x2, x3, x4, x5⟩, xd⟩ ⟨⟨y0, y1, y2, y3, y4, y5⟩, yd⟩ s)) := by
  have hT : timesW ⟨⟨x0, x1, x2, x3, x4, x5⟩, xd⟩ ⟨⟨y0, y1, y2, y3, y4, y5⟩, yd⟩ s = (⟨tpZ x0 y0 xd yd s, tpZ x1 y1 xd yd s, tpZ x2 y2 xd yd s, tpZ x3 y3 xd yd s, tpZ x4 y4 xd yd s, tpZ x5 y5 xd yd s⟩, xd * yd) := by
    unfold timesW
    refine Prod.ext (V6.eq ?_ ?_ ?_ ?_ ?_ ?_) rfl <;> simp only [V6.scl, V6.add, tpZ] <;> grind
  have hW : bothW ⟨⟨x0, x1, x2, x3, x4, x5⟩, xd⟩ ⟨⟨y0, y1, y2, y3, y4, y5⟩, yd⟩ s = if Rt.err ⟨⟨x0, x1, x2, x3, x4, x5⟩, xd⟩ = 0 then (if Rt.err ⟨⟨y0, y1, y2, y3, y4, y5⟩, yd⟩ = 0 then lowW ⟨tpZ x0 y0 xd yd s, tpZ x1 y1 xd yd s, tpZ x2 y2 xd yd s, tpZ x3 y3 xd yd s, tpZ x4 y4 xd yd s, tpZ x5 y5 xd yd s⟩ (xd * yd) else (Rt.zero, Rt.err ⟨⟨y0, y1, y2, y3, y4, y5⟩, yd⟩)) else (Rt.zero, Rt.err ⟨⟨x0, x1, x2, x3, x4, x5⟩, xd⟩) := by
    unfold bothW
    rw [hT]
  have hokx := fun h => (Rt.ok_iff (r := ⟨⟨x0, x1, x2, x3, x4, x5⟩, xd⟩)).1 h
  have hoky := fun h => (Rt.ok_iff (r := ⟨⟨y0, y1, y2, y3, y4, y5⟩, yd⟩)).1 h
  have hcx := fun W => rCheck_any x0 x1 x2 x3 x4 x5 xd W
  have hcy := fun W => rCheck_any y0 y1 y2 y3 y4 y5 yd W
  have HOX := Lib.hid hokx
  have HOY := Lib.hid hoky
  clear hT hokx hoky
  generalize bothW ⟨⟨x0, x1, x2, x3, x4, x5⟩, xd⟩ ⟨⟨y0, y1, y2, y3, y4, y5⟩, yd⟩ s = RW at *
  have HW := Lib.hid hW
  clear hW
  generalize hex : Rt.err ⟨⟨x0, x1, x2, x3, x4, x5⟩, xd⟩ = ex at *
  generalize hey : Rt.err ⟨⟨y0, y1, y2, y3, y4, y5⟩, yd⟩ = ey at *
  have HCX := Lib.hid hcx
  have HCY := Lib.hid hcy
  clear hex hey hcx hcy
  go_enter Tryd.func38, Tryd.ntmps38
  have hr3 : RowI (((w.alloc (.cells #[.int .i64 x0, .int .i64 x1, .int .i64 x2, .int .i64 x3, .int .i64 x4, .int .i64 x5, .int .i64 xd] 40)).alloc (.cells #[.int .i64 y0, .int .i64 y1, .int .i64 y2, .int .i64 y3, .int .i64 y4, .int .i64 y5, .int .i64 yd] 40)).alloc (.cells #[.int .i64 0, .int .i64 0, .int .i64 0, .int .i64 0, .int .i64 0, .int .i64 0, .int .i64 0] 40)) (w.heap.size + 1 + 1) 40 [0, 0, 0, 0, 0, 0, 0] := by
    have h := RowI.of_alloc ((w.alloc (.cells #[.int .i64 x0, .int .i64 x1, .int .i64 x2, .int .i64 x3, .int .i64 x4, .int .i64 x5, .int .i64 xd] 40)).alloc (.cells #[.int .i64 y0, .int .i64 y1, .int .i64 y2, .int .i64 y3, .int .i64 y4, .int .i64 y5, .int .i64 yd] 40)) 40 [0, 0, 0, 0, 0, 0, 0]
    rw [World.size_alloc, World.size_alloc] at h
    exact h
  have hr1 : RowI (((w.alloc (.cells #[.int .i64 x0, .int .i64 x1, .int .i64 x2, .int .i64 x3, .int .i64 x4, .int .i64 x5, .int .i64 xd] 40)).alloc (.cells #[.int .i64 y0, .int .i64 y1, .int .i64 y2, .int .i64 y3, .int .i64 y4, .int .i64 y5, .int .i64 yd] 40)).alloc (.cells #[.int .i64 0, .int .i64 0, .int .i64 0, .int .i64 0, .int .i64 0, .int .i64 0, .int .i64 0] 40)) w.heap.size 40 [x0, x1, x2, x3, x4, x5, xd] := ((RowI.of_alloc w 40 [x0, x1, x2, x3, x4, x5, xd]).alloc _).alloc _
  have hr2 : RowI (((w.alloc (.cells #[.int .i64 x0, .int .i64 x1, .int .i64 x2, .int .i64 x3, .int .i64 x4, .int .i64 x5, .int .i64 xd] 40)).alloc (.cells #[.int .i64 y0, .int .i64 y1, .int .i64 y2, .int .i64 y3, .int .i64 y4, .int .i64 y5, .int .i64 yd] 40)).alloc (.cells #[.int .i64 0, .int .i64 0, .int .i64 0, .int .i64 0, .int .i64 0, .int .i64 0, .int .i64 0] 40)) (w.heap.size + 1) 40 [y0, y1, y2, y3, y4, y5, yd] := by
    have h := (RowI.of_alloc (w.alloc (.cells #[.int .i64 x0, .int .i64 x1, .int .i64 x2, .int .i64 x3, .int .i64 x4, .int .i64 x5, .int .i64 xd] 40)) 40 [y0, y1, y2, y3, y4, y5, yd]).alloc (.cells #[.int .i64 0, .int .i64 0, .int .i64 0, .int .i64 0, .int .i64 0, .int .i64 0, .int .i64 0] 40)
    rw [World.size_alloc] at h
    exact h
  have hb0 := ((belA w (.cells #[.int .i64 x0, .int .i64 x1, .int .i64 x2, .int .i64 x3, .int .i64 x4, .int .i64 x5, .int .i64 xd] 40)).alloc (by simp) (.cells #[.int .i64 y0, .int .i64 y1, .int .i64 y2, .int .i64 y3, .int .i64 y4, .int .i64 y5, .int .i64 yd] 40)).alloc (by simp; omega) (.cells #[.int .i64 0, .int .i64 0, .int .i64 0, .int .i64 0, .int .i64 0, .int .i64 0, .int .i64 0] 40)
  go_wp2
  generalize ((w.alloc (.cells #[.int .i64 x0, .int .i64 x1, .int .i64 x2, .int .i64 x3, .int .i64 x4, .int .i64 x5, .int .i64 xd] 40)).alloc (.cells #[.int .i64 y0, .int .i64 y1, .int .i64 y2, .int .i64 y3, .int .i64 y4, .int .i64 y5, .int .i64 yd] 40)).alloc (.cells #[.int .i64 0, .int .i64 0, .int .i64 0, .int .i64 0, .int .i64 0, .int .i64 0, .int .i64 0] 40) = W0 at *
  have HR1 := Lib.hid hr1
  have HR2 := Lib.hid hr2
  have HR3 := Lib.hid hr3
  have HB := Lib.hid hb0
  have hz := hb0.size
  clear hr1 hr2 hr3 hb0
  obtain ⟨c0, c1, c2, c3, c4, c5, c6⟩ := HR1.out.r7
  obtain ⟨d0, d1, d2, d3, d4, d5, d6⟩ := HR2.out.r7
  simp only [Nat.zero_add] at c0 c1 c2 c3 c4 c5 c6 d0 d1 d2 d3 d4 d5 d6
  go_region_held3 (fun w' => w'.cell? ⟨w.heap.size, 0, none⟩ = some (.int .i64 x0) ∧ w'.cell? ⟨w.heap.size, 1, none⟩ = some (.int .i64 x1) ∧ w'.cell? ⟨w.heap.size, 2, none⟩ = some (.int .i64 x2) ∧ w'.cell? ⟨w.heap.size, 3, none⟩ = some (.int .i64 x3) ∧ w'.cell? ⟨w.heap.size, 4, none⟩ = some (.int .i64 x4) ∧ w'.cell? ⟨w.heap.size, 5, none⟩ = some (.int .i64 x5) ∧ w'.cell? ⟨w.heap.size, 6, none⟩ = some (.int .i64 xd) ∧ w'.cell? ⟨w.heap.size + 1, 0, none⟩ = some (.int .i64 y0) ∧ w'.cell? ⟨w.heap.size + 1, 1, none⟩ = some (.int .i64 y1) ∧ w'.cell? ⟨w.heap.size + 1, 2, none⟩ = some (.int .i64 y2) ∧ w'.cell? ⟨w.heap.size + 1, 3, none⟩ = some (.int .i64 y3) ∧ w'.cell? ⟨w.heap.size + 1, 4, none⟩ = some (.int .i64 y4) ∧ w'.cell? ⟨w.heap.size + 1, 5, none⟩ = some (.int .i64 y5) ∧ w'.cell? ⟨w.heap.size + 1, 6, none⟩ = some (.int .i64 yd))
    (first | (refine ⟨?_, ?_, ?_, ?_, ?_, ?_, ?_, ?_, ?_, ?_, ?_, ?_, ?_, ?_⟩ <;> with_reducible assumption) | go_keep)
    (first
      | (go_at_call 39; refine Calls.mono (HCX.out _) ?_; clear HCX; rintro e w1 ⟨he, hb1⟩; subst he; have hb1' := ((Below.refl W0.heap.size W0).drew).trans (hb1.mono (Nat.le_refl _)); clear c0 c1 c2 c3 c4 c5 c6 d0 d1 d2 d3 d4 d5 d6; obtain ⟨c0, c1, c2, c3, c4, c5, c6⟩ := (HR1.out.up hb1').r7; obtain ⟨d0, d1, d2, d3, d4, d5, d6⟩ := (HR2.out.up hb1').r7; simp only [Nat.zero_add] at c0 c1 c2 c3 c4 c5 c6 d0 d1 d2 d3 d4 d5 d6)
      | (go_at_call 39; refine Calls.mono (HCY.out _) ?_; clear HCY; rintro e w2 ⟨he, hb2⟩; subst he; have hb2' := hb1'.trans (hb2.mono hb1'.size); clear c0 c1 c2 c3 c4 c5 c6 d0 d1 d2 d3 d4 d5 d6; obtain ⟨c0, c1, c2, c3, c4, c5, c6⟩ := (HR1.out.up hb2').r7; obtain ⟨d0, d1, d2, d3, d4, d5, d6⟩ := (HR2.out.up hb2').r7; simp only [Nat.zero_add] at c0 c1 c2 c3 c4 c5 c6 d0 d1 d2 d3 d4 d5 d6))
  have hr1 := HR1.out.up hb2'
  have hr2 := HR2.out.up hb2'
  have hr3 := HR3.out.up hb2'
  have hb := HB.out.trans (hb2'.mono hz)
  clear HR1 HR2 HR3 HB hz hb1 hb1' hb2 hb2'
  have HR1 := Lib.hid hr1
  have HR2 := Lib.hid hr2
  have HR3 := Lib.hid hr3
  have HB := Lib.hid hb
  have hz := hb.size
  clear hr1 hr2 hr3 hb
  by_cases hx0 : ex = 0
  case neg =>
    have hxb : (ex != 0) = true := by simp [hx0]
    have hWE := HW.out
    rw [if_neg hx0] at hWE
    have HWE := Lib.hid hWE
    clear hWE HW c0 c1 c2 c3 c4 c5 c6 d0 d1 d2 d3 d4 d5 d6
    obtain ⟨c0, c1, c2, c3, c4, c5, c6⟩ := HR3.out.r7
    simp only [Nat.zero_add] at c0 c1 c2 c3 c4 c5 c6
    have f0 := HR3.out.frozen 0
    have f1 := HR3.out.frozen 1
    have f2 := HR3.out.frozen 2
    have f3 := HR3.out.frozen 3
    have f4 := HR3.out.frozen 4
    have f5 := HR3.out.frozen 5
    have f6 := HR3.out.frozen 6
    go_wp2
    change bodyPost _ _ _ _ _ (putR w2 (w.heap.size + 1 + 1) 0 0 0 0 0 0 0)
    clear c0 c1 c2 c3 c4 c5 c6
    obtain ⟨c0, c1, c2, c3, c4, c5, c6⟩ := (putR_row HR3.out 0 0 0 0 0 0 0).r7
    have hB := putR_below HB.out (show w.heap.size ≤ w.heap.size + 1 + 1 by omega) 0 0 0 0 0 0 0
    generalize putR w2 (w.heap.size + 1 + 1) 0 0 0 0 0 0 0 = W' at *
    simp only [Nat.zero_add] at c0 c1 c2 c3 c4 c5 c6
    refine bodyPost_ret (v := .tuple #[.agg #[.int .i64 0, .int .i64 0, .int .i64 0, .int .i64 0, .int .i64 0, .int .i64 0, .int .i64 0], .int .i64 ex]) (by simp [results, Tryd.results38, c0, c1, c2, c3, c4, c5, c6, go_sem]) rfl ⟨?_, hB⟩
    rw [HWE.out]
    rfl
  subst hx0
  by_cases hy0 : ey = 0
  case neg =>
    have hyb : (ey != 0) = true := by simp [hy0]
    have hWE := HW.out
    rw [if_pos rfl, if_neg hy0] at hWE
    have HWE := Lib.hid hWE
    clear hWE HW c0 c1 c2 c3 c4 c5 c6 d0 d1 d2 d3 d4 d5 d6
    obtain ⟨c0, c1, c2, c3, c4, c5, c6⟩ := HR3.out.r7
    simp only [Nat.zero_add] at c0 c1 c2 c3 c4 c5 c6
    have f0 := HR3.out.frozen 0
    have f1 := HR3.out.frozen 1
    have f2 := HR3.out.frozen 2
    have f3 := HR3.out.frozen 3
    have f4 := HR3.out.frozen 4
    have f5 := HR3.out.frozen 5
    have f6 := HR3.out.frozen 6
    go_wp2
    change bodyPost _ _ _ _ _ (putR w2 (w.heap.size + 1 + 1) 0 0 0 0 0 0 0)
    clear c0 c1 c2 c3 c4 c5 c6
    obtain ⟨c0, c1, c2, c3, c4, c5, c6⟩ := (putR_row HR3.out 0 0 0 0 0 0 0).r7
    have hB := putR_below HB.out (show w.heap.size ≤ w.heap.size + 1 + 1 by omega) 0 0 0 0 0 0 0
    generalize putR w2 (w.heap.size + 1 + 1) 0 0 0 0 0 0 0 = W' at *
    simp only [Nat.zero_add] at c0 c1 c2 c3 c4 c5 c6
    refine bodyPost_ret (v := .tuple #[.agg #[.int .i64 0, .int .i64 0, .int .i64 0, .int .i64 0, .int .i64 0, .int .i64 0, .int .i64 0], .int .i64 ey]) (by simp [results, Tryd.results38, c0, c1, c2, c3, c4, c5, c6, go_sem]) rfl ⟨?_, hB⟩
    rw [HWE.out]
    rfl
  subst hy0
  have okx := HOX.out rfl
  have oky := HOY.out rfl
  obtain ⟨bx0, bx1, bx2, bx3, bx4, bx5, bxd⟩ := okx.nums
  obtain ⟨by0, by1, by2, by3, by4, by5, byd⟩ := oky.nums
  simp only at bx0 bx1 bx2 bx3 bx4 bx5 bxd by0 by1 by2 by3 by4 by5 byd
  have hsb : -1 ≤ s ∧ s ≤ 1 := by omega
  have hWE := HW.out
  rw [if_pos rfl, if_pos rfl] at hWE
  have hxl : ∀ n ∈ [x0, x1, x2, x3, x4, x5], -100000 ≤ n ∧ n ≤ 100000 := by
    simp only [List.mem_cons, List.not_mem_nil, or_false, forall_eq_or_imp, forall_eq]
    exact ⟨bx0, bx1, bx2, bx3, bx4, bx5⟩
  have hyl : ∀ n ∈ [y0, y1, y2, y3, y4, y5], -100000 ≤ n ∧ n ≤ 100000 := by
    simp only [List.mem_cons, List.not_mem_nil, or_false, forall_eq_or_imp, forall_eq]
    exact ⟨by0, by1, by2, by3, by4, by5⟩
  have hzl : ∀ n ∈ [tpZ x0 y0 xd yd s, tpZ x1 y1 xd yd s, tpZ x2 y2 xd yd s, tpZ x3 y3 xd yd s, tpZ x4 y4 xd yd s, tpZ x5 y5 xd yd s], -1000000000 ≤ n ∧ n ≤ 1000000000 := by
    simp only [List.mem_cons, List.not_mem_nil, or_false, forall_eq_or_imp, forall_eq]
    exact ⟨tpZ_bd bx0 by0 bxd byd hsb, tpZ_bd bx1 by1 bxd byd hsb, tpZ_bd bx2 by2 bxd byd hsb, tpZ_bd bx3 by3 bxd byd hsb, tpZ_bd bx4 by4 bxd byd hsb, tpZ_bd bx5 by5 bxd byd hsb⟩
  have hdd := mul_bd (A := 1000) (B := 1000) (show -1000 ≤ xd ∧ xd ≤ 1000 by omega) (show -1000 ≤ yd ∧ yd ≤ 1000 by omega) (by omega)
  have hdp : 0 < xd * yd := Int.mul_pos (by omega) (by omega)
  obtain ⟨D, hD⟩ : ∃ D : Nat, xd * yd = (D : Int) := ⟨(xd * yd).toNat, by omega⟩
  have hma := fun W => made_any (tpZ x0 y0 xd yd s) (tpZ x1 y1 xd yd s) (tpZ x2 y2 xd yd s) (tpZ x3 y3 xd yd s) (tpZ x4 y4 xd yd s) (tpZ x5 y5 xd yd s) D W (by omega) (by omega) hzl
  rw [← hD, ← hWE] at hma
  rw [hD] at hma
  have eD : IntKind.i64.wrap (D : Int) = (D : Int) := IntWalk.i64_in _ (by omega)
  have HMA := Lib.hid hma
  have HXL := Lib.hid hxl
  have HYL := Lib.hid hyl
  have HDE := Lib.hid hD
  clear hma hxl hyl hzl hWE HW okx oky bx0 bx1 bx2 bx3 bx4 bx5 by0 by1 by2 by3 by4 by5 hs HOX HOY hD c0 c1 c2 c3 c4 c5 c6 d0 d1 d2 d3 d4 d5 d6 hdd hdp
  go_wp2
  have hr1 := HR1.out.alloc (.cells #[.int .i64 0, .int .i64 0, .int .i64 0, .int .i64 0, .int .i64 0, .int .i64 0] 70)
  have hr2 := HR2.out.alloc (.cells #[.int .i64 0, .int .i64 0, .int .i64 0, .int .i64 0, .int .i64 0, .int .i64 0] 70)
  have hr3 := HR3.out.alloc (.cells #[.int .i64 0, .int .i64 0, .int .i64 0, .int .i64 0, .int .i64 0, .int .i64 0] 70)
  have hr4 : RowI (w2.alloc (.cells #[.int .i64 0, .int .i64 0, .int .i64 0, .int .i64 0, .int .i64 0, .int .i64 0] 70)) w2.heap.size 70 (mixL (tpL [x0, x1, x2, x3, x4, x5] [y0, y1, y2, y3, y4, y5] xd yd s) zero6 0) := RowI.of_alloc w2 70 zero6
  have hb := HB.out.trans ((belA w2 (.cells #[.int .i64 0, .int .i64 0, .int .i64 0, .int .i64 0, .int .i64 0, .int .i64 0] 70)).mono hz)
  have hlt := HR3.out.lt
  clear HR1 HR2 HR3 HB
  generalize hB3 : w2.heap.size = B3 at *
  clear hB3
  generalize w2.alloc (.cells #[.int .i64 0, .int .i64 0, .int .i64 0, .int .i64 0, .int .i64 0, .int .i64 0] 70) = W2 at *
  have HR1 := Lib.hid hr1
  have HR2 := Lib.hid hr2
  have HR3 := Lib.hid hr3
  have HR4 := Lib.hid hr4
  have HB := Lib.hid hb
  clear hr1 hr2 hr3 hr4 hb
  go_loopw [11] (fun iv wr => RbRel w B3 [x0, x1, x2, x3, x4, x5] [y0, y1, y2, y3, y4, y5] xd yd s iv wr) (fun iv _ => 6 - (intOf iv).toNat)
  case atStart => exact ⟨0, Nat.zero_le _, rfl, HR1.out, HR2.out, HR3.out, HR4.out, HB.out⟩
  case round =>
    clear HR1 HR2 HR3 HR4 HB
    obtain ⟨i, hi, rfl, hrx, hry, hrz, hr4, hb⟩ := hrel
    have HRX := Lib.hid hrx
    have HRY := Lib.hid hry
    have HR3 := Lib.hid hrz
    have HR4 := Lib.hid hr4
    have HB := Lib.hid hb
    clear hrx hry hrz hr4 hb
    have kxd := HRX.out.cell (i := 6) (x := xd) rfl
    have kyd := HRY.out.cell (i := 6) (x := yd) rfl
    have nb0 : w.heap.size ≠ B3 := by omega
    have nb1 : w.heap.size + 1 ≠ B3 := by omega
    have nb2 : w.heap.size + 1 + 1 ≠ B3 := by omega
    by_cases hil : i < 6
    · obtain ⟨x, hx⟩ : ∃ x, [x0, x1, x2, x3, x4, x5][i]? = some x := ⟨[x0, x1, x2, x3, x4, x5][i], List.getElem?_eq_getElem _⟩
      obtain ⟨y, hy⟩ : ∃ y, [y0, y1, y2, y3, y4, y5][i]? = some y := ⟨[y0, y1, y2, y3, y4, y5][i], List.getElem?_eq_getElem _⟩
      have hxb := HXL.out x (List.mem_of_getElem? hx)
      have hyb := HYL.out y (List.mem_of_getElem? hy)
      have kx := HRX.out.cell (at7 (d := xd) hx)
      have ky := HRY.out.cell (at7 (d := yd) hy)
      obtain ⟨o, ho⟩ := mixL_at (Z := tpL [x0, x1, x2, x3, x4, x5] [y0, y1, y2, y3, y4, y5] xd yd s) (O := zero6) (i := i) rfl hil
      have kz := HR4.out.cell ho
      have fz := HR4.out.frozen i
      have hset := mixL_set (Z := tpL [x0, x1, x2, x3, x4, x5] [y0, y1, y2, y3, y4, y5] xd yd s) (O := zero6) (i := i) rfl (zip_at hx hy)
      have HSET := Lib.hid hset
      have hilI : (i : Int) < 6 := by omega
      have hiI : (0 : Int) ≤ (i : Int) := by omega
      have p1 := mul_bd (A := 100000) (B := 1000) hxb (show -1000 ≤ yd ∧ yd ≤ 1000 by omega) (by omega)
      have p2 := mul_bd (A := 1) (B := 100000) hsb hyb (by omega)
      have p3 := mul_bd (a := s * y) (A := 100000) (B := 1000) (by omega) (show -1000 ≤ xd ∧ xd ≤ 1000 by omega) (by omega)
      obtain ⟨P, hP⟩ : ∃ P, x * yd = P := ⟨_, rfl⟩
      obtain ⟨Q, hQ⟩ : ∃ Q, s * y = Q := ⟨_, rfl⟩
      rw [hP] at p1
      rw [hQ] at p2 p3
      obtain ⟨R, hR⟩ : ∃ R, Q * xd = R := ⟨_, rfl⟩
      rw [hR] at p3
      obtain ⟨T, hT⟩ : ∃ T, P + R = T := ⟨_, rfl⟩
      have hTZ : tpZ x y xd yd s = T := by unfold tpZ; rw [hP, hQ, hR, hT]
      have e1 : IntKind.i64.wrap P = P := IntWalk.i64_in _ (by omega)
      have e2 : IntKind.i64.wrap Q = Q := IntWalk.i64_in _ (by omega)
      have e3 : IntKind.i64.wrap R = R := IntWalk.i64_in _ (by omega)
      have e4 : IntKind.i64.wrap T = T := IntWalk.i64_in _ (by omega)
      have HTZ := Lib.hid hTZ
      have kp0 : (wr.setCell ⟨B3, i, none⟩ (.int .i64 T)).drew.cell? ⟨w.heap.size, i, none⟩ = some (.int .i64 x) := (HRX.out.other (.int .i64 T) nb0).cell (at7 (d := xd) hx)
      have kp1 : (wr.setCell ⟨B3, i, none⟩ (.int .i64 T)).drew.cell? ⟨w.heap.size, 6, none⟩ = some (.int .i64 xd) := (HRX.out.other (.int .i64 T) nb0).cell (i := 6) rfl
      have kp2 : (wr.setCell ⟨B3, i, none⟩ (.int .i64 T)).drew.cell? ⟨w.heap.size + 1, i, none⟩ = some (.int .i64 y) := (HRY.out.other (.int .i64 T) nb1).cell (at7 (d := yd) hy)
      have kp3 : (wr.setCell ⟨B3, i, none⟩ (.int .i64 T)).drew.cell? ⟨w.heap.size + 1, 6, none⟩ = some (.int .i64 yd) := (HRY.out.other (.int .i64 T) nb1).cell (i := 6) rfl
      clear hx hy ho hset hTZ HDE
      go_wp2
      go_region_held3 (fun w' => w'.cell? ⟨w.heap.size, i, none⟩ = some (.int .i64 x) ∧ w'.cell? ⟨w.heap.size, 6, none⟩ = some (.int .i64 xd) ∧ w'.cell? ⟨w.heap.size + 1, i, none⟩ = some (.int .i64 y) ∧ w'.cell? ⟨w.heap.size + 1, 6, none⟩ = some (.int .i64 yd)) (first | (refine ⟨?_, ?_, ?_, ?_⟩ <;> with_reducible assumption) | go_keep) (fail)
      go_wp2
      refine ⟨⟨i + 1, by omega, by go_num, ?_, ?_, ?_, ?_, ?_⟩, by simp [intOf]; omega⟩
      · exact HRX.out.other _ nb0
      · exact HRY.out.other _ nb1
      · exact HR3.out.other _ nb2
      · have h := HR4.out.set i T
        rw [← HTZ.out, HSET.out, HTZ.out] at h
        exact h
      · exact (HB.out.setCell (by show w.heap.size ≤ B3; omega) _).drew
    · obtain rfl : i = 6 := by omega
      have hl6 : mixL (tpL [x0, x1, x2, x3, x4, x5] [y0, y1, y2, y3, y4, y5] xd yd s) zero6 6 = [tpZ x0 y0 xd yd s, tpZ x1 y1 xd yd s, tpZ x2 y2 xd yd s, tpZ x3 y3 xd yd s, tpZ x4 y4 xd yd s, tpZ x5 y5 xd yd s] := rfl
      have hrow := HR4.out
      rw [hl6] at hrow
      clear HR4 hl6
      generalize tpZ x0 y0 xd yd s = z0 at *
      generalize tpZ x1 y1 xd yd s = z1 at *
      generalize tpZ x2 y2 xd yd s = z2 at *
      generalize tpZ x3 y3 xd yd s = z3 at *
      generalize tpZ x4 y4 xd yd s = z4 at *
      generalize tpZ x5 y5 xd yd s = z5 at *
      have m0 := hrow.cell (i := 0) (x := z0) rfl
      have m1 := hrow.cell (i := 1) (x := z1) rfl
      have m2 := hrow.cell (i := 2) (x := z2) rfl
      have m3 := hrow.cell (i := 3) (x := z3) rfl
      have m4 := hrow.cell (i := 4) (x := z4) rfl
      have m5 := hrow.cell (i := 5) (x := z5) rfl
      have hDE := HDE.out
      have hz2 := HB.out.size
      clear hrow
      go_wp2_with fail
      refine (HMA.out _).mono ?_
      rintro e w3 ⟨he, hb3⟩
      clear hDE HDE HMA m0 m1 m2 m3 m4 m5 kxd kyd
      obtain ⟨⟨⟨r0, r1, r2, r3, r4, r5⟩, rd⟩, re⟩ := RW
      unfold rtv at he
      simp only at he
      subst he
      have hr3 := HR3.out.up hb3
      have hb := HB.out.trans (hb3.mono hz2)
      clear HR3 HB hb3
      have HR3 := Lib.hid hr3
      have HB := Lib.hid hb
      clear hr3 hb
      obtain ⟨c0, c1, c2, c3, c4, c5, c6⟩ := HR3.out.r7
      simp only [Nat.zero_add] at c0 c1 c2 c3 c4 c5 c6
      have f0 := HR3.out.frozen 0
      have f1 := HR3.out.frozen 1
      have f2 := HR3.out.frozen 2
      have f3 := HR3.out.frozen 3
      have f4 := HR3.out.frozen 4
      have f5 := HR3.out.frozen 5
      have f6 := HR3.out.frozen 6
      go_wp2
      change bodyPost _ _ _ _ _ (putR w3 (w.heap.size + 1 + 1) r0 r1 r2 r3 r4 r5 rd)
      clear c0 c1 c2 c3 c4 c5 c6
      obtain ⟨c0, c1, c2, c3, c4, c5, c6⟩ := (putR_row HR3.out r0 r1 r2 r3 r4 r5 rd).r7
      have hB := putR_below HB.out (show w.heap.size ≤ w.heap.size + 1 + 1 by omega) r0 r1 r2 r3 r4 r5 rd
      generalize putR w3 (w.heap.size + 1 + 1) r0 r1 r2 r3 r4 r5 rd = W' at *
      simp only [Nat.zero_add] at c0 c1 c2 c3 c4 c5 c6
      refine bodyPost_ret (v := .tuple #[.agg #[.int .i64 r0, .int .i64 r1, .int .i64 r2, .int .i64 r3, .int .i64 r4, .int .i64 r5, .int .i64 rd], .int .i64 re]) (by simp [results, Tryd.results38, c0, c1, c2, c3, c4, c5, c6, go_sem]) rfl ⟨?_, hB⟩
      rfl

set_option maxRecDepth 100000 in
set_option maxHeartbeats 1000000 in
theorem rMul_any (x0 x1 x2 x3 x4 x5 xd y0 y1 y2 y3 y4 y5 yd : Int) (w : World) :
    Calls Tryd.prog 18 #[.agg #[.int .i64 x0, .int .i64 x1, .int .i64 x2, .int .i64 x3, .int .i64 x4, .int .i64 x5, .int .i64 xd], .agg #[.int .i64 y0, .int .i64 y1, .int .i64 y2, .int .i64 y3, .int .i64 y4, .int .i64 y5, .int .i64 yd]] w (RtPost w (bothW ⟨⟨x0, x1, x2, x3, x4, x5⟩, xd⟩ ⟨⟨y0, y1, y2, y3, y4, y5⟩, yd⟩ (1))) := by
  have hbo := fun W => both_any x0 x1 x2 x3 x4 x5 xd y0 y1 y2 y3 y4 y5 yd (1) W (by omega)
  have HBO := Lib.hid hbo
  clear hbo
  generalize bothW ⟨⟨x0, x1, x2, x3, x4, x5⟩, xd⟩ ⟨⟨y0, y1, y2, y3, y4, y5⟩, yd⟩ (1) = RW at *
  go_enter Tryd.func18, Tryd.ntmps18
  have hr3 : RowI (((w.alloc (.cells #[.int .i64 x0, .int .i64 x1, .int .i64 x2, .int .i64 x3, .int .i64 x4, .int .i64 x5, .int .i64 xd] 40)).alloc (.cells #[.int .i64 y0, .int .i64 y1, .int .i64 y2, .int .i64 y3, .int .i64 y4, .int .i64 y5, .int .i64 yd] 40)).alloc (.cells #[.int .i64 0, .int .i64 0, .int .i64 0, .int .i64 0, .int .i64 0, .int .i64 0, .int .i64 0] 40)) (w.heap.size + 1 + 1) 40 [0, 0, 0, 0, 0, 0, 0] := by
    have h := RowI.of_alloc ((w.alloc (.cells #[.int .i64 x0, .int .i64 x1, .int .i64 x2, .int .i64 x3, .int .i64 x4, .int .i64 x5, .int .i64 xd] 40)).alloc (.cells #[.int .i64 y0, .int .i64 y1, .int .i64 y2, .int .i64 y3, .int .i64 y4, .int .i64 y5, .int .i64 yd] 40)) 40 [0, 0, 0, 0, 0, 0, 0]
    rw [World.size_alloc, World.size_alloc] at h
    exact h
  have hb0 := ((belA w (.cells #[.int .i64 x0, .int .i64 x1, .int .i64 x2, .int .i64 x3, .int .i64 x4, .int .i64 x5, .int .i64 xd] 40)).alloc (by simp) (.cells #[.int .i64 y0, .int .i64 y1, .int .i64 y2, .int .i64 y3, .int .i64 y4, .int .i64 y5, .int .i64 yd] 40)).alloc (by simp; omega) (.cells #[.int .i64 0, .int .i64 0, .int .i64 0, .int .i64 0, .int .i64 0, .int .i64 0, .int .i64 0] 40)
  have HR := Lib.hid hr3
  have HB0 := Lib.hid hb0
  clear hr3 hb0
  go_wp2_with fail
  refine (HBO.out _).mono ?_
  rintro e w1 ⟨he, hb1⟩
  obtain ⟨⟨⟨r0, r1, r2, r3, r4, r5⟩, rd⟩, re⟩ := RW
  unfold rtv at he
  simp only at he
  subst he
  have hr3 := HR.out.up hb1
  have hb := HB0.out.trans (hb1.mono (by simp; omega))
  clear HR HB0 hb1 HBO
  have HR3 := Lib.hid hr3
  have HB := Lib.hid hb
  clear hr3 hb
  obtain ⟨c0, c1, c2, c3, c4, c5, c6⟩ := HR3.out.r7
  simp only [Nat.zero_add] at c0 c1 c2 c3 c4 c5 c6
  have f0 := HR3.out.frozen 0
  have f1 := HR3.out.frozen 1
  have f2 := HR3.out.frozen 2
  have f3 := HR3.out.frozen 3
  have f4 := HR3.out.frozen 4
  have f5 := HR3.out.frozen 5
  have f6 := HR3.out.frozen 6
  go_wp2
  change bodyPost _ _ _ _ _ (putR w1 (w.heap.size + 1 + 1) r0 r1 r2 r3 r4 r5 rd)
  clear c0 c1 c2 c3 c4 c5 c6
  obtain ⟨c0, c1, c2, c3, c4, c5, c6⟩ := (putR_row HR3.out r0 r1 r2 r3 r4 r5 rd).r7
  have hB := putR_below HB.out (show w.heap.size ≤ w.heap.size + 1 + 1 by omega) r0 r1 r2 r3 r4 r5 rd
  generalize putR w1 (w.heap.size + 1 + 1) r0 r1 r2 r3 r4 r5 rd = W' at *
  simp only [Nat.zero_add] at c0 c1 c2 c3 c4 c5 c6
  refine bodyPost_ret (v := .tuple #[.agg #[.int .i64 r0, .int .i64 r1, .int .i64 r2, .int .i64 r3, .int .i64 r4, .int .i64 r5, .int .i64 rd], .int .i64 re]) (by simp [results, Tryd.results18, c0, c1, c2, c3, c4, c5, c6, go_sem]) rfl ⟨?_, hB⟩
  rfl

end Go.Proofs.YtlmcafcebidliaaDoor
