import Derived.Test.YtmbcejldifobnaaDoorC05
import Derived.Test.YtmbcejldifobnaaDoorC04
import Derived.Test.YtmbcejldifobnaaDoorC01
namespace Go.Proofs.YtmbcejldifobnaaDoor
open Go.RowKit
theorem RowI.of_alloc (w : World) (t : TypeId) (L : List Int) : RowI (w.alloc (.cells (L.map (Value.int .i64)).toArray t)) w.heap.size t L := heap_alloc_new w _
theorem RowI.alloc {w : World} {g : Nat} {t : TypeId} {L : List Int} (h : RowI w g t L) (o : Obj) : RowI (w.alloc o) g t L := h.up (belA w o)
theorem exR_two (x y : Rt) : exR [x, y] = if x.err = 0 then y.err else x.err := by
  unfold exR exR exR
  by_cases h1 : x.err = 0
  · rw [if_pos h1, if_pos h1]
    by_cases h2 : y.err = 0
    · rw [if_pos h2, h2]
    · rw [if_neg h2]
  · rw [if_neg h1, if_neg h1]
theorem cell_two {w : World} {g : Nat} {x y : Rt} (h : w.heap[g]? = some (.cells (cellsR x ++ cellsR y).toArray 24 (0, 0))) : ∀ i r, [x, y][i]? = some r → CellR w g (i * 7) r := by
  intro i r hi
  have c := fun j => Go.Joins.cell_of_block h j
  match i, hi with
  | 0, hi => cases hi; exact ⟨c 0, c 1, c 2, c 3, c 4, c 5, c 6⟩
  | 1, hi => cases hi; exact ⟨c 7, c 8, c 9, c 10, c 11, c 12, c 13⟩
theorem cell_one1 {w : World} {g : Nat} {x : Rt} (h : w.heap[g]? = some (.cells (cellsR x).toArray 24 (0, 0))) : ∀ i r, [x][i]? = some r → CellR w g (i * 7) r := by
  intro i r hi
  have c := fun j => Go.Joins.cell_of_block h j
  match i, hi with
  | 0, hi => cases hi; exact ⟨c 0, c 1, c 2, c 3, c 4, c 5, c 6⟩
theorem exR_one (x : Rt) : exR [x] = x.err := by
  unfold exR exR
  by_cases h1 : x.err = 0
  · rw [if_pos h1, h1]
  · rw [if_neg h1]
theorem tpZ_bd {x y xd yd s : Int} (hx : -100000 ≤ x ∧ x ≤ 100000) (hy : -100000 ≤ y ∧ y ≤ 100000) (hxd : 1 ≤ xd ∧ xd ≤ 1000) (hyd : 1 ≤ yd ∧ yd ≤ 1000) (hs : -1 ≤ s ∧ s ≤ 1) : -1000000000 ≤ tpZ x y xd yd s ∧ tpZ x y xd yd s ≤ 1000000000 := by
  have p1 := mul_bd (A := 100000) (B := 1000) hx (show -1000 ≤ yd ∧ yd ≤ 1000 by omega) (by omega)
  have p2 := mul_bd (A := 1) (B := 100000) hs hy (by omega)
  have p3 := mul_bd (a := s * y) (A := 100000) (B := 1000) (by omega) (show -1000 ≤ xd ∧ xd ≤ 1000 by omega) (by omega)
  unfold tpZ
  omega
theorem Rt.err_cases (r : Rt) : r.err = 0 ∨ r.err = 2 ∨ r.err = 6 := by
  unfold Rt.err
  split
  · split
    · exact .inl rfl
    · exact .inr (.inr rfl)
  · exact .inr (.inl rfl)
set_option maxRecDepth 100000 in
set_option maxHeartbeats 1000000 in
theorem Mul_any (x0 x1 x2 x3 x4 x5 xd y0 y1 y2 y3 y4 y5 yd : Int) (w : World) :
    Calls Tryd.prog 162 #[.agg #[.int .i64 x0, .int .i64 x1, .int .i64 x2, .int .i64 x3, .int .i64 x4, .int .i64 x5, .int .i64 xd], .agg #[.int .i64 y0, .int .i64 y1, .int .i64 y2, .int .i64 y3, .int .i64 y4, .int .i64 y5, .int .i64 yd]] w (RtPost w (bothW ⟨⟨x0, x1, x2, x3, x4, x5⟩, xd⟩ ⟨⟨y0, y1, y2, y3, y4, y5⟩, yd⟩ (1))) := by
  have hT : timesW ⟨⟨x0, x1, x2, x3, x4, x5⟩, xd⟩ ⟨⟨y0, y1, y2, y3, y4, y5⟩, yd⟩ (1) = (⟨tpZ x0 y0 xd yd (1), tpZ x1 y1 xd yd (1), tpZ x2 y2 xd yd (1), tpZ x3 y3 xd yd (1), tpZ x4 y4 xd yd (1), tpZ x5 y5 xd yd (1)⟩, xd * yd) := by
    unfold timesW
    refine Prod.ext (V6.eq ?_ ?_ ?_ ?_ ?_ ?_) rfl <;> simp only [V6.scl, V6.add, tpZ] <;> grind
  have hW : bothW ⟨⟨x0, x1, x2, x3, x4, x5⟩, xd⟩ ⟨⟨y0, y1, y2, y3, y4, y5⟩, yd⟩ (1) = if Rt.err ⟨⟨x0, x1, x2, x3, x4, x5⟩, xd⟩ = 0 then (if Rt.err ⟨⟨y0, y1, y2, y3, y4, y5⟩, yd⟩ = 0 then lowW ⟨tpZ x0 y0 xd yd (1), tpZ x1 y1 xd yd (1), tpZ x2 y2 xd yd (1), tpZ x3 y3 xd yd (1), tpZ x4 y4 xd yd (1), tpZ x5 y5 xd yd (1)⟩ (xd * yd) else (Rt.zero, Rt.err ⟨⟨y0, y1, y2, y3, y4, y5⟩, yd⟩)) else (Rt.zero, Rt.err ⟨⟨x0, x1, x2, x3, x4, x5⟩, xd⟩) := by
    unfold bothW
    rw [hT]
  have hE := exR_two ⟨⟨x0, x1, x2, x3, x4, x5⟩, xd⟩ ⟨⟨y0, y1, y2, y3, y4, y5⟩, yd⟩
  have hokx := fun h => (Rt.ok_iff (r := ⟨⟨x0, x1, x2, x3, x4, x5⟩, xd⟩)).1 h
  have hoky := fun h => (Rt.ok_iff (r := ⟨⟨y0, y1, y2, y3, y4, y5⟩, yd⟩)).1 h
  have hcx := Rt.err_cases ⟨⟨x0, x1, x2, x3, x4, x5⟩, xd⟩
  have hcy := Rt.err_cases ⟨⟨y0, y1, y2, y3, y4, y5⟩, yd⟩
  have hex := fun (W : World) (g : Nat) (h : W.heap[g]? = some (.cells (cellsR ⟨⟨x0, x1, x2, x3, x4, x5⟩, xd⟩ ++ cellsR ⟨⟨y0, y1, y2, y3, y4, y5⟩, yd⟩).toArray 24 (0, 0))) => examineR_any g [⟨⟨x0, x1, x2, x3, x4, x5⟩, xd⟩, ⟨⟨y0, y1, y2, y3, y4, y5⟩, yd⟩] W (Array.getElem?_eq_some_iff.1 h).1 (cell_two h) (by simp)
  rw [hE] at hex
  have HEX := Lib.hid hex
  have HOX := Lib.hid hokx
  have HOY := Lib.hid hoky
  clear hex hT hE hokx hoky
  generalize bothW ⟨⟨x0, x1, x2, x3, x4, x5⟩, xd⟩ ⟨⟨y0, y1, y2, y3, y4, y5⟩, yd⟩ (1) = RW at *
  have HW := Lib.hid hW
  clear hW
  generalize hex : Rt.err ⟨⟨x0, x1, x2, x3, x4, x5⟩, xd⟩ = ex at *
  generalize hey : Rt.err ⟨⟨y0, y1, y2, y3, y4, y5⟩, yd⟩ = ey at *
  have HXE := Lib.hid hex
  have HYE := Lib.hid hey
  clear hex hey
  generalize hEE : (if ex = 0 then ey else ex) = E at HEX
  have HEE := Lib.hid hEE
  clear hEE
  go_enter Tryd.func162, Tryd.ntmps162
  have hr3 : RowI (((w.alloc (.cells #[.int .i64 x0, .int .i64 x1, .int .i64 x2, .int .i64 x3, .int .i64 x4, .int .i64 x5, .int .i64 xd] 24)).alloc (.cells #[.int .i64 y0, .int .i64 y1, .int .i64 y2, .int .i64 y3, .int .i64 y4, .int .i64 y5, .int .i64 yd] 24)).alloc (.cells #[.int .i64 0, .int .i64 0, .int .i64 0, .int .i64 0, .int .i64 0, .int .i64 0, .int .i64 0] 24)) (w.heap.size + 1 + 1) 24 [0, 0, 0, 0, 0, 0, 0] := by
    have h := RowI.of_alloc ((w.alloc (.cells #[.int .i64 x0, .int .i64 x1, .int .i64 x2, .int .i64 x3, .int .i64 x4, .int .i64 x5, .int .i64 xd] 24)).alloc (.cells #[.int .i64 y0, .int .i64 y1, .int .i64 y2, .int .i64 y3, .int .i64 y4, .int .i64 y5, .int .i64 yd] 24)) 24 [0, 0, 0, 0, 0, 0, 0]
    rw [World.size_alloc, World.size_alloc] at h
    exact h
  have hr1 : RowI (((w.alloc (.cells #[.int .i64 x0, .int .i64 x1, .int .i64 x2, .int .i64 x3, .int .i64 x4, .int .i64 x5, .int .i64 xd] 24)).alloc (.cells #[.int .i64 y0, .int .i64 y1, .int .i64 y2, .int .i64 y3, .int .i64 y4, .int .i64 y5, .int .i64 yd] 24)).alloc (.cells #[.int .i64 0, .int .i64 0, .int .i64 0, .int .i64 0, .int .i64 0, .int .i64 0, .int .i64 0] 24)) w.heap.size 24 [x0, x1, x2, x3, x4, x5, xd] := ((RowI.of_alloc w 24 [x0, x1, x2, x3, x4, x5, xd]).alloc _).alloc _
  have hr2 : RowI (((w.alloc (.cells #[.int .i64 x0, .int .i64 x1, .int .i64 x2, .int .i64 x3, .int .i64 x4, .int .i64 x5, .int .i64 xd] 24)).alloc (.cells #[.int .i64 y0, .int .i64 y1, .int .i64 y2, .int .i64 y3, .int .i64 y4, .int .i64 y5, .int .i64 yd] 24)).alloc (.cells #[.int .i64 0, .int .i64 0, .int .i64 0, .int .i64 0, .int .i64 0, .int .i64 0, .int .i64 0] 24)) (w.heap.size + 1) 24 [y0, y1, y2, y3, y4, y5, yd] := by
    have h := (RowI.of_alloc (w.alloc (.cells #[.int .i64 x0, .int .i64 x1, .int .i64 x2, .int .i64 x3, .int .i64 x4, .int .i64 x5, .int .i64 xd] 24)) 24 [y0, y1, y2, y3, y4, y5, yd]).alloc (.cells #[.int .i64 0, .int .i64 0, .int .i64 0, .int .i64 0, .int .i64 0, .int .i64 0, .int .i64 0] 24)
    rw [World.size_alloc] at h
    exact h
  have hb0 := ((belA w (.cells #[.int .i64 x0, .int .i64 x1, .int .i64 x2, .int .i64 x3, .int .i64 x4, .int .i64 x5, .int .i64 xd] 24)).alloc (by simp) (.cells #[.int .i64 y0, .int .i64 y1, .int .i64 y2, .int .i64 y3, .int .i64 y4, .int .i64 y5, .int .i64 yd] 24)).alloc (by simp; omega) (.cells #[.int .i64 0, .int .i64 0, .int .i64 0, .int .i64 0, .int .i64 0, .int .i64 0, .int .i64 0] 24)
  have HR1 := Lib.hid hr1
  have HR2 := Lib.hid hr2
  have HR3 := Lib.hid hr3
  have HB0 := Lib.hid hb0
  clear hr1 hr2 hr3 hb0
  go_wp2_with fail
  refine (HEX.out _ _ (by have h := heap_alloc_new (((w.alloc (.cells #[.int .i64 x0, .int .i64 x1, .int .i64 x2, .int .i64 x3, .int .i64 x4, .int .i64 x5, .int .i64 xd] 24)).alloc (.cells #[.int .i64 y0, .int .i64 y1, .int .i64 y2, .int .i64 y3, .int .i64 y4, .int .i64 y5, .int .i64 yd] 24)).alloc (.cells #[.int .i64 0, .int .i64 0, .int .i64 0, .int .i64 0, .int .i64 0, .int .i64 0, .int .i64 0] 24)) (.cells (cellsR ⟨⟨x0, x1, x2, x3, x4, x5⟩, xd⟩ ++ cellsR ⟨⟨y0, y1, y2, y3, y4, y5⟩, yd⟩).toArray 24); rw [World.size_alloc, World.size_alloc, World.size_alloc] at h; exact h)).mono ?_
  rintro e w1 ⟨he, hb1⟩
  subst he
  have hb1' := (belA (((w.alloc (.cells #[.int .i64 x0, .int .i64 x1, .int .i64 x2, .int .i64 x3, .int .i64 x4, .int .i64 x5, .int .i64 xd] 24)).alloc (.cells #[.int .i64 y0, .int .i64 y1, .int .i64 y2, .int .i64 y3, .int .i64 y4, .int .i64 y5, .int .i64 yd] 24)).alloc (.cells #[.int .i64 0, .int .i64 0, .int .i64 0, .int .i64 0, .int .i64 0, .int .i64 0, .int .i64 0] 24)) _).trans (hb1.mono (by simp))
  have hr1 := HR1.out.up hb1'
  have hr2 := HR2.out.up hb1'
  have hr3 := HR3.out.up hb1'
  have hb := HB0.out.trans (hb1'.mono (by simp; omega))
  clear HR1 HR2 HR3 HB0 hb1 hb1'
  have HR1 := Lib.hid hr1
  have HR2 := Lib.hid hr2
  have HR3 := Lib.hid hr3
  have HB := Lib.hid hb
  have hz := hb.size
  clear hr1 hr2 hr3 hb
  by_cases hE0 : E = 0
  · subst hE0
    have hx0 : ex = 0 := by
      have h := HEE.out
      by_cases h0 : ex = 0
      · exact h0
      · rw [if_neg h0] at h; exact h
    have hy0 : ey = 0 := by
      have h := HEE.out
      rw [if_pos hx0] at h; exact h
    have okx := HOX.out hx0
    have oky := HOY.out hy0
    obtain ⟨bx0, bx1, bx2, bx3, bx4, bx5, bxd⟩ := okx.nums
    obtain ⟨by0, by1, by2, by3, by4, by5, byd⟩ := oky.nums
    simp only at bx0 bx1 bx2 bx3 bx4 bx5 bxd by0 by1 by2 by3 by4 by5 byd
    have hWE : RW = lowW ⟨tpZ x0 y0 xd yd (1), tpZ x1 y1 xd yd (1), tpZ x2 y2 xd yd (1), tpZ x3 y3 xd yd (1), tpZ x4 y4 xd yd (1), tpZ x5 y5 xd yd (1)⟩ (xd * yd) := by
      have h := HW.out
      rw [if_pos hx0, if_pos hy0] at h
      exact h
    have hxl : ∀ n ∈ [x0, x1, x2, x3, x4, x5], -100000 ≤ n ∧ n ≤ 100000 := by
      simp only [List.mem_cons, List.not_mem_nil, or_false, forall_eq_or_imp, forall_eq]
      exact ⟨bx0, bx1, bx2, bx3, bx4, bx5⟩
    have hyl : ∀ n ∈ [y0, y1, y2, y3, y4, y5], -100000 ≤ n ∧ n ≤ 100000 := by
      simp only [List.mem_cons, List.not_mem_nil, or_false, forall_eq_or_imp, forall_eq]
      exact ⟨by0, by1, by2, by3, by4, by5⟩
    have htp := fun W => timesPower_any x0 x1 x2 x3 x4 x5 xd y0 y1 y2 y3 y4 y5 yd (1) W hxl hyl bxd byd (by omega)
    have hzl : ∀ n ∈ [tpZ x0 y0 xd yd (1), tpZ x1 y1 xd yd (1), tpZ x2 y2 xd yd (1), tpZ x3 y3 xd yd (1), tpZ x4 y4 xd yd (1), tpZ x5 y5 xd yd (1)], -1000000000 ≤ n ∧ n ≤ 1000000000 := by
      simp only [List.mem_cons, List.not_mem_nil, or_false, forall_eq_or_imp, forall_eq]
      exact ⟨tpZ_bd bx0 by0 bxd byd (by omega), tpZ_bd bx1 by1 bxd byd (by omega), tpZ_bd bx2 by2 bxd byd (by omega), tpZ_bd bx3 by3 bxd byd (by omega), tpZ_bd bx4 by4 bxd byd (by omega), tpZ_bd bx5 by5 bxd byd (by omega)⟩
    have hdd := mul_bd (A := 1000) (B := 1000) (show -1000 ≤ xd ∧ xd ≤ 1000 by omega) (show -1000 ≤ yd ∧ yd ≤ 1000 by omega) (by omega)
    have hd0 : xd * yd ≠ 0 := Int.mul_ne_zero (by omega) (by omega)
    have hlo := fun W => lowest_any (tpZ x0 y0 xd yd (1)) (tpZ x1 y1 xd yd (1)) (tpZ x2 y2 xd yd (1)) (tpZ x3 y3 xd yd (1)) (tpZ x4 y4 xd yd (1)) (tpZ x5 y5 xd yd (1)) (xd * yd) W hd0 (by omega) hzl
    rw [← hWE] at hlo
    obtain ⟨c0, c1, c2, c3, c4, c5, c6⟩ := HR1.out.r7
    obtain ⟨d0, d1, d2, d3, d4, d5, d6⟩ := HR2.out.r7
    simp only [Nat.zero_add] at c0 c1 c2 c3 c4 c5 c6 d0 d1 d2 d3 d4 d5 d6
    have HTP := Lib.hid htp
    have HLO := Lib.hid hlo
    clear htp hlo hWE hx0 hy0 okx oky bx0 bx1 bx2 bx3 bx4 bx5 bxd by0 by1 by2 by3 by4 by5 byd hxl hyl hzl hdd hd0
    generalize tpZ x0 y0 xd yd (1) = z0 at *
    generalize tpZ x1 y1 xd yd (1) = z1 at *
    generalize tpZ x2 y2 xd yd (1) = z2 at *
    generalize tpZ x3 y3 xd yd (1) = z3 at *
    generalize tpZ x4 y4 xd yd (1) = z4 at *
    generalize tpZ x5 y5 xd yd (1) = z5 at *
    generalize xd * yd = zd at *
    go_wp2_with fail
    refine (HTP.out _).mono ?_
    rintro e w2 ⟨he, hb2⟩
    subst he
    have hr3 := HR3.out.up hb2
    have hb := HB.out.trans (hb2.mono hz)
    have hz2 := hb.size
    clear HR1 HR2 HR3 HB HTP c0 c1 c2 c3 c4 c5 c6 d0 d1 d2 d3 d4 d5 d6 hb2
    have HR3 := Lib.hid hr3
    have HB := Lib.hid hb
    clear hr3 hb
    go_wp2_with fail
    refine (HLO.out _).mono ?_
    rintro e w3 ⟨he, hb3⟩
    obtain ⟨⟨⟨r0, r1, r2, r3, r4, r5⟩, rd⟩, re⟩ := RW
    unfold rtv at he
    simp only at he
    subst he
    have hr3 := HR3.out.up hb3
    have hb := HB.out.trans (hb3.mono hz2)
    clear HR3 HB HLO HW hb3
    obtain ⟨c0, c1, c2, c3, c4, c5, c6⟩ := hr3.r7
    simp only [Nat.zero_add] at c0 c1 c2 c3 c4 c5 c6
    have f0 := hr3.frozen 0
    have f1 := hr3.frozen 1
    have f2 := hr3.frozen 2
    have f3 := hr3.frozen 3
    have f4 := hr3.frozen 4
    have f5 := hr3.frozen 5
    have f6 := hr3.frozen 6
    have HR3 := Lib.hid hr3
    have HB := Lib.hid hb
    clear hr3 hb
    go_wp2
    change bodyPost _ _ _ _ _ (putR w3 (w.heap.size + 1 + 1) r0 r1 r2 r3 r4 r5 rd)
    clear c0 c1 c2 c3 c4 c5 c6
    obtain ⟨c0, c1, c2, c3, c4, c5, c6⟩ := (putR_row HR3.out r0 r1 r2 r3 r4 r5 rd).r7
    have hB := putR_below HB.out (show w.heap.size ≤ w.heap.size + 1 + 1 by omega) r0 r1 r2 r3 r4 r5 rd
    generalize putR w3 (w.heap.size + 1 + 1) r0 r1 r2 r3 r4 r5 rd = W' at *
    simp only [Nat.zero_add] at c0 c1 c2 c3 c4 c5 c6
    exact bodyPost_ret (v := .tuple #[.agg #[.int .i64 r0, .int .i64 r1, .int .i64 r2, .int .i64 r3, .int .i64 r4, .int .i64 r5, .int .i64 rd], .int .i64 re]) (by simp [results, Tryd.results162, c0, c1, c2, c3, c4, c5, c6, go_sem]) rfl ⟨rfl, hB⟩
  · have hEb : (E != 0) = true := by simp [hE0]
    have hWE : RW = (Rt.zero, E) := by
      have h := HW.out
      have h2 := HEE.out
      by_cases h0 : ex = 0
      · rw [if_pos h0] at h h2
        subst h2
        rw [if_neg hE0] at h
        exact h
      · rw [if_neg h0] at h h2
        subst h2
        exact h
    have HWE := Lib.hid hWE
    obtain ⟨c0, c1, c2, c3, c4, c5, c6⟩ := HR3.out.r7
    simp only [Nat.zero_add] at c0 c1 c2 c3 c4 c5 c6
    have f0 := HR3.out.frozen 0
    have f1 := HR3.out.frozen 1
    have f2 := HR3.out.frozen 2
    have f3 := HR3.out.frozen 3
    have f4 := HR3.out.frozen 4
    have f5 := HR3.out.frozen 5
    have f6 := HR3.out.frozen 6
    clear hWE HW hE0 hcx hcy
    go_wp2
    change bodyPost _ _ _ _ _ (putR w1 (w.heap.size + 1 + 1) 0 0 0 0 0 0 0)
    clear c0 c1 c2 c3 c4 c5 c6
    obtain ⟨c0, c1, c2, c3, c4, c5, c6⟩ := (putR_row HR3.out 0 0 0 0 0 0 0).r7
    have hB := putR_below HB.out (show w.heap.size ≤ w.heap.size + 1 + 1 by omega) 0 0 0 0 0 0 0
    generalize putR w1 (w.heap.size + 1 + 1) 0 0 0 0 0 0 0 = W' at *
    simp only [Nat.zero_add] at c0 c1 c2 c3 c4 c5 c6
    refine bodyPost_ret (v := .tuple #[.agg #[.int .i64 0, .int .i64 0, .int .i64 0, .int .i64 0, .int .i64 0, .int .i64 0, .int .i64 0], .int .i64 E]) (by simp [results, Tryd.results162, c0, c1, c2, c3, c4, c5, c6, go_sem]) rfl ⟨?_, hB⟩
    rw [HWE.out]
    rfl
set_option maxRecDepth 100000 in
set_option maxHeartbeats 1000000 in
theorem Div_any (x0 x1 x2 x3 x4 x5 xd y0 y1 y2 y3 y4 y5 yd : Int) (w : World) :
    Calls Tryd.prog 160 #[.agg #[.int .i64 x0, .int .i64 x1, .int .i64 x2, .int .i64 x3, .int .i64 x4, .int .i64 x5, .int .i64 xd], .agg #[.int .i64 y0, .int .i64 y1, .int .i64 y2, .int .i64 y3, .int .i64 y4, .int .i64 y5, .int .i64 yd]] w (RtPost w (bothW ⟨⟨x0, x1, x2, x3, x4, x5⟩, xd⟩ ⟨⟨y0, y1, y2, y3, y4, y5⟩, yd⟩ (-1))) := by
  have hT : timesW ⟨⟨x0, x1, x2, x3, x4, x5⟩, xd⟩ ⟨⟨y0, y1, y2, y3, y4, y5⟩, yd⟩ (-1) = (⟨tpZ x0 y0 xd yd (-1), tpZ x1 y1 xd yd (-1), tpZ x2 y2 xd yd (-1), tpZ x3 y3 xd yd (-1), tpZ x4 y4 xd yd (-1), tpZ x5 y5 xd yd (-1)⟩, xd * yd) := by
    unfold timesW
    refine Prod.ext (V6.eq ?_ ?_ ?_ ?_ ?_ ?_) rfl <;> simp only [V6.scl, V6.add, tpZ] <;> grind
  have hW : bothW ⟨⟨x0, x1, x2, x3, x4, x5⟩, xd⟩ ⟨⟨y0, y1, y2, y3, y4, y5⟩, yd⟩ (-1) = if Rt.err ⟨⟨x0, x1, x2, x3, x4, x5⟩, xd⟩ = 0 then (if Rt.err ⟨⟨y0, y1, y2, y3, y4, y5⟩, yd⟩ = 0 then lowW ⟨tpZ x0 y0 xd yd (-1), tpZ x1 y1 xd yd (-1), tpZ x2 y2 xd yd (-1), tpZ x3 y3 xd yd (-1), tpZ x4 y4 xd yd (-1), tpZ x5 y5 xd yd (-1)⟩ (xd * yd) else (Rt.zero, Rt.err ⟨⟨y0, y1, y2, y3, y4, y5⟩, yd⟩)) else (Rt.zero, Rt.err ⟨⟨x0, x1, x2, x3, x4, x5⟩, xd⟩) := by
    unfold bothW
    rw [hT]
  have hE := exR_two ⟨⟨x0, x1, x2, x3, x4, x5⟩, xd⟩ ⟨⟨y0, y1, y2, y3, y4, y5⟩, yd⟩
  have hokx := fun h => (Rt.ok_iff (r := ⟨⟨x0, x1, x2, x3, x4, x5⟩, xd⟩)).1 h
  have hoky := fun h => (Rt.ok_iff (r := ⟨⟨y0, y1, y2, y3, y4, y5⟩, yd⟩)).1 h
  have hcx := Rt.err_cases ⟨⟨x0, x1, x2, x3, x4, x5⟩, xd⟩
  have hcy := Rt.err_cases ⟨⟨y0, y1, y2, y3, y4, y5⟩, yd⟩
  have hex := fun (W : World) (g : Nat) (h : W.heap[g]? = some (.cells (cellsR ⟨⟨x0, x1, x2, x3, x4, x5⟩, xd⟩ ++ cellsR ⟨⟨y0, y1, y2, y3, y4, y5⟩, yd⟩).toArray 24 (0, 0))) => examineR_any g [⟨⟨x0, x1, x2, x3, x4, x5⟩, xd⟩, ⟨⟨y0, y1, y2, y3, y4, y5⟩, yd⟩] W (Array.getElem?_eq_some_iff.1 h).1 (cell_two h) (by simp)
  rw [hE] at hex
  have HEX := Lib.hid hex
  have HOX := Lib.hid hokx
  have HOY := Lib.hid hoky
  clear hex hT hE hokx hoky
  generalize bothW ⟨⟨x0, x1, x2, x3, x4, x5⟩, xd⟩ ⟨⟨y0, y1, y2, y3, y4, y5⟩, yd⟩ (-1) = RW at *
  have HW := Lib.hid hW
  clear hW
  generalize hex : Rt.err ⟨⟨x0, x1, x2, x3, x4, x5⟩, xd⟩ = ex at *
  generalize hey : Rt.err ⟨⟨y0, y1, y2, y3, y4, y5⟩, yd⟩ = ey at *
  have HXE := Lib.hid hex
  have HYE := Lib.hid hey
  clear hex hey
  generalize hEE : (if ex = 0 then ey else ex) = E at HEX
  have HEE := Lib.hid hEE
  clear hEE
  go_enter Tryd.func160, Tryd.ntmps160
  have hr3 : RowI (((w.alloc (.cells #[.int .i64 x0, .int .i64 x1, .int .i64 x2, .int .i64 x3, .int .i64 x4, .int .i64 x5, .int .i64 xd] 24)).alloc (.cells #[.int .i64 y0, .int .i64 y1, .int .i64 y2, .int .i64 y3, .int .i64 y4, .int .i64 y5, .int .i64 yd] 24)).alloc (.cells #[.int .i64 0, .int .i64 0, .int .i64 0, .int .i64 0, .int .i64 0, .int .i64 0, .int .i64 0] 24)) (w.heap.size + 1 + 1) 24 [0, 0, 0, 0, 0, 0, 0] := by
    have h := RowI.of_alloc ((w.alloc (.cells #[.int .i64 x0, .int .i64 x1, .int .i64 x2, .int .i64 x3, .int .i64 x4, .int .i64 x5, .int .i64 xd] 24)).alloc (.cells #[.int .i64 y0, .int .i64 y1, .int .i64 y2, .int .i64 y3, .int .i64 y4, .int .i64 y5, .int .i64 yd] 24)) 24 [0, 0, 0, 0, 0, 0, 0]
    rw [World.size_alloc, World.size_alloc] at h
    exact h
  have hr1 : RowI (((w.alloc (.cells #[.int .i64 x0, .int .i64 x1, .int .i64 x2, .int .i64 x3, .int .i64 x4, .int .i64 x5, .int .i64 xd] 24)).alloc (.cells #[.int .i64 y0, .int .i64 y1, .int .i64 y2, .int .i64 y3, .int .i64 y4, .int .i64 y5, .int .i64 yd] 24)).alloc (.cells #[.int .i64 0, .int .i64 0, .int .i64 0, .int .i64 0, .int .i64 0, .int .i64 0, .int .i64 0] 24)) w.heap.size 24 [x0, x1, x2, x3, x4, x5, xd] := ((RowI.of_alloc w 24 [x0, x1, x2, x3, x4, x5, xd]).alloc _).alloc _
  have hr2 : RowI (((w.alloc (.cells #[.int .i64 x0, .int .i64 x1, .int .i64 x2, .int .i64 x3, .int .i64 x4, .int .i64 x5, .int .i64 xd] 24)).alloc (.cells #[.int .i64 y0, .int .i64 y1, .int .i64 y2, .int .i64 y3, .int .i64 y4, .int .i64 y5, .int .i64 yd] 24)).alloc (.cells #[.int .i64 0, .int .i64 0, .int .i64 0, .int .i64 0, .int .i64 0, .int .i64 0, .int .i64 0] 24)) (w.heap.size + 1) 24 [y0, y1, y2, y3, y4, y5, yd] := by
    have h := (RowI.of_alloc (w.alloc (.cells #[.int .i64 x0, .int .i64 x1, .int .i64 x2, .int .i64 x3, .int .i64 x4, .int .i64 x5, .int .i64 xd] 24)) 24 [y0, y1, y2, y3, y4, y5, yd]).alloc (.cells #[.int .i64 0, .int .i64 0, .int .i64 0, .int .i64 0, .int .i64 0, .int .i64 0, .int .i64 0] 24)
    rw [World.size_alloc] at h
    exact h
  have hb0 := ((belA w (.cells #[.int .i64 x0, .int .i64 x1, .int .i64 x2, .int .i64 x3, .int .i64 x4, .int .i64 x5, .int .i64 xd] 24)).alloc (by simp) (.cells #[.int .i64 y0, .int .i64 y1, .int .i64 y2, .int .i64 y3, .int .i64 y4, .int .i64 y5, .int .i64 yd] 24)).alloc (by simp; omega) (.cells #[.int .i64 0, .int .i64 0, .int .i64 0, .int .i64 0, .int .i64 0, .int .i64 0, .int .i64 0] 24)
  have HR1 := Lib.hid hr1
  have HR2 := Lib.hid hr2
  have HR3 := Lib.hid hr3
  have HB0 := Lib.hid hb0
  clear hr1 hr2 hr3 hb0
  go_wp2_with fail
  refine (HEX.out _ _ (by have h := heap_alloc_new (((w.alloc (.cells #[.int .i64 x0, .int .i64 x1, .int .i64 x2, .int .i64 x3, .int .i64 x4, .int .i64 x5, .int .i64 xd] 24)).alloc (.cells #[.int .i64 y0, .int .i64 y1, .int .i64 y2, .int .i64 y3, .int .i64 y4, .int .i64 y5, .int .i64 yd] 24)).alloc (.cells #[.int .i64 0, .int .i64 0, .int .i64 0, .int .i64 0, .int .i64 0, .int .i64 0, .int .i64 0] 24)) (.cells (cellsR ⟨⟨x0, x1, x2, x3, x4, x5⟩, xd⟩ ++ cellsR ⟨⟨y0, y1, y2, y3, y4, y5⟩, yd⟩).toArray 24); rw [World.size_alloc, World.size_alloc, World.size_alloc] at h; exact h)).mono ?_
  rintro e w1 ⟨he, hb1⟩
  subst he
  have hb1' := (belA (((w.alloc (.cells #[.int .i64 x0, .int .i64 x1, .int .i64 x2, .int .i64 x3, .int .i64 x4, .int .i64 x5, .int .i64 xd] 24)).alloc (.cells #[.int .i64 y0, .int .i64 y1, .int .i64 y2, .int .i64 y3, .int .i64 y4, .int .i64 y5, .int .i64 yd] 24)).alloc (.cells #[.int .i64 0, .int .i64 0, .int .i64 0, .int .i64 0, .int .i64 0, .int .i64 0, .int .i64 0] 24)) _).trans (hb1.mono (by simp))
  have hr1 := HR1.out.up hb1'
  have hr2 := HR2.out.up hb1'
  have hr3 := HR3.out.up hb1'
  have hb := HB0.out.trans (hb1'.mono (by simp; omega))
  clear HR1 HR2 HR3 HB0 hb1 hb1'
  have HR1 := Lib.hid hr1
  have HR2 := Lib.hid hr2
  have HR3 := Lib.hid hr3
  have HB := Lib.hid hb
  have hz := hb.size
  clear hr1 hr2 hr3 hb
  by_cases hE0 : E = 0
  · subst hE0
    have hx0 : ex = 0 := by
      have h := HEE.out
      by_cases h0 : ex = 0
      · exact h0
      · rw [if_neg h0] at h; exact h
    have hy0 : ey = 0 := by
      have h := HEE.out
      rw [if_pos hx0] at h; exact h
    have okx := HOX.out hx0
    have oky := HOY.out hy0
    obtain ⟨bx0, bx1, bx2, bx3, bx4, bx5, bxd⟩ := okx.nums
    obtain ⟨by0, by1, by2, by3, by4, by5, byd⟩ := oky.nums
    simp only at bx0 bx1 bx2 bx3 bx4 bx5 bxd by0 by1 by2 by3 by4 by5 byd
    have hWE : RW = lowW ⟨tpZ x0 y0 xd yd (-1), tpZ x1 y1 xd yd (-1), tpZ x2 y2 xd yd (-1), tpZ x3 y3 xd yd (-1), tpZ x4 y4 xd yd (-1), tpZ x5 y5 xd yd (-1)⟩ (xd * yd) := by
      have h := HW.out
      rw [if_pos hx0, if_pos hy0] at h
      exact h
    have hxl : ∀ n ∈ [x0, x1, x2, x3, x4, x5], -100000 ≤ n ∧ n ≤ 100000 := by
      simp only [List.mem_cons, List.not_mem_nil, or_false, forall_eq_or_imp, forall_eq]
      exact ⟨bx0, bx1, bx2, bx3, bx4, bx5⟩
    have hyl : ∀ n ∈ [y0, y1, y2, y3, y4, y5], -100000 ≤ n ∧ n ≤ 100000 := by
      simp only [List.mem_cons, List.not_mem_nil, or_false, forall_eq_or_imp, forall_eq]
      exact ⟨by0, by1, by2, by3, by4, by5⟩
    have htp := fun W => timesPower_any x0 x1 x2 x3 x4 x5 xd y0 y1 y2 y3 y4 y5 yd (-1) W hxl hyl bxd byd (by omega)
    have hzl : ∀ n ∈ [tpZ x0 y0 xd yd (-1), tpZ x1 y1 xd yd (-1), tpZ x2 y2 xd yd (-1), tpZ x3 y3 xd yd (-1), tpZ x4 y4 xd yd (-1), tpZ x5 y5 xd yd (-1)], -1000000000 ≤ n ∧ n ≤ 1000000000 := by
      simp only [List.mem_cons, List.not_mem_nil, or_false, forall_eq_or_imp, forall_eq]
      exact ⟨tpZ_bd bx0 by0 bxd byd (by omega), tpZ_bd bx1 by1 bxd byd (by omega), tpZ_bd bx2 by2 bxd byd (by omega), tpZ_bd bx3 by3 bxd byd (by omega), tpZ_bd bx4 by4 bxd byd (by omega), tpZ_bd bx5 by5 bxd byd (by omega)⟩
    have hdd := mul_bd (A := 1000) (B := 1000) (show -1000 ≤ xd ∧ xd ≤ 1000 by omega) (show -1000 ≤ yd ∧ yd ≤ 1000 by omega) (by omega)
    have hd0 : xd * yd ≠ 0 := Int.mul_ne_zero (by omega) (by omega)
    have hlo := fun W => lowest_any (tpZ x0 y0 xd yd (-1)) (tpZ x1 y1 xd yd (-1)) (tpZ x2 y2 xd yd (-1)) (tpZ x3 y3 xd yd (-1)) (tpZ x4 y4 xd yd (-1)) (tpZ x5 y5 xd yd (-1)) (xd * yd) W hd0 (by omega) hzl
    rw [← hWE] at hlo
    obtain ⟨c0, c1, c2, c3, c4, c5, c6⟩ := HR1.out.r7
    obtain ⟨d0, d1, d2, d3, d4, d5, d6⟩ := HR2.out.r7
    simp only [Nat.zero_add] at c0 c1 c2 c3 c4 c5 c6 d0 d1 d2 d3 d4 d5 d6
    have HTP := Lib.hid htp
    have HLO := Lib.hid hlo
    clear htp hlo hWE hx0 hy0 okx oky bx0 bx1 bx2 bx3 bx4 bx5 bxd by0 by1 by2 by3 by4 by5 byd hxl hyl hzl hdd hd0
    generalize tpZ x0 y0 xd yd (-1) = z0 at *
    generalize tpZ x1 y1 xd yd (-1) = z1 at *
    generalize tpZ x2 y2 xd yd (-1) = z2 at *
    generalize tpZ x3 y3 xd yd (-1) = z3 at *
    generalize tpZ x4 y4 xd yd (-1) = z4 at *
    generalize tpZ x5 y5 xd yd (-1) = z5 at *
    generalize xd * yd = zd at *
    go_wp2_with fail
    refine (HTP.out _).mono ?_
    rintro e w2 ⟨he, hb2⟩
    subst he
    have hr3 := HR3.out.up hb2
    have hb := HB.out.trans (hb2.mono hz)
    have hz2 := hb.size
    clear HR1 HR2 HR3 HB HTP c0 c1 c2 c3 c4 c5 c6 d0 d1 d2 d3 d4 d5 d6 hb2
    have HR3 := Lib.hid hr3
    have HB := Lib.hid hb
    clear hr3 hb
    go_wp2_with fail
    refine (HLO.out _).mono ?_
    rintro e w3 ⟨he, hb3⟩
    obtain ⟨⟨⟨r0, r1, r2, r3, r4, r5⟩, rd⟩, re⟩ := RW
    unfold rtv at he
    simp only at he
    subst he
    have hr3 := HR3.out.up hb3
    have hb := HB.out.trans (hb3.mono hz2)
    clear HR3 HB HLO HW hb3
    obtain ⟨c0, c1, c2, c3, c4, c5, c6⟩ := hr3.r7
    simp only [Nat.zero_add] at c0 c1 c2 c3 c4 c5 c6
    have f0 := hr3.frozen 0
    have f1 := hr3.frozen 1
    have f2 := hr3.frozen 2
    have f3 := hr3.frozen 3
    have f4 := hr3.frozen 4
    have f5 := hr3.frozen 5
    have f6 := hr3.frozen 6
    have HR3 := Lib.hid hr3
    have HB := Lib.hid hb
    clear hr3 hb
    go_wp2
    change bodyPost _ _ _ _ _ (putR w3 (w.heap.size + 1 + 1) r0 r1 r2 r3 r4 r5 rd)
    clear c0 c1 c2 c3 c4 c5 c6
    obtain ⟨c0, c1, c2, c3, c4, c5, c6⟩ := (putR_row HR3.out r0 r1 r2 r3 r4 r5 rd).r7
    have hB := putR_below HB.out (show w.heap.size ≤ w.heap.size + 1 + 1 by omega) r0 r1 r2 r3 r4 r5 rd
    generalize putR w3 (w.heap.size + 1 + 1) r0 r1 r2 r3 r4 r5 rd = W' at *
    simp only [Nat.zero_add] at c0 c1 c2 c3 c4 c5 c6
    exact bodyPost_ret (v := .tuple #[.agg #[.int .i64 r0, .int .i64 r1, .int .i64 r2, .int .i64 r3, .int .i64 r4, .int .i64 r5, .int .i64 rd], .int .i64 re]) (by simp [results, Tryd.results160, c0, c1, c2, c3, c4, c5, c6, go_sem]) rfl ⟨rfl, hB⟩
  · have hEb : (E != 0) = true := by simp [hE0]
    have hWE : RW = (Rt.zero, E) := by
      have h := HW.out
      have h2 := HEE.out
      by_cases h0 : ex = 0
      · rw [if_pos h0] at h h2
        subst h2
        rw [if_neg hE0] at h
        exact h
      · rw [if_neg h0] at h h2
        subst h2
        exact h
    have HWE := Lib.hid hWE
    obtain ⟨c0, c1, c2, c3, c4, c5, c6⟩ := HR3.out.r7
    simp only [Nat.zero_add] at c0 c1 c2 c3 c4 c5 c6
    have f0 := HR3.out.frozen 0
    have f1 := HR3.out.frozen 1
    have f2 := HR3.out.frozen 2
    have f3 := HR3.out.frozen 3
    have f4 := HR3.out.frozen 4
    have f5 := HR3.out.frozen 5
    have f6 := HR3.out.frozen 6
    clear hWE HW hE0 hcx hcy
    go_wp2
    change bodyPost _ _ _ _ _ (putR w1 (w.heap.size + 1 + 1) 0 0 0 0 0 0 0)
    clear c0 c1 c2 c3 c4 c5 c6
    obtain ⟨c0, c1, c2, c3, c4, c5, c6⟩ := (putR_row HR3.out 0 0 0 0 0 0 0).r7
    have hB := putR_below HB.out (show w.heap.size ≤ w.heap.size + 1 + 1 by omega) 0 0 0 0 0 0 0
    generalize putR w1 (w.heap.size + 1 + 1) 0 0 0 0 0 0 0 = W' at *
    simp only [Nat.zero_add] at c0 c1 c2 c3 c4 c5 c6
    refine bodyPost_ret (v := .tuple #[.agg #[.int .i64 0, .int .i64 0, .int .i64 0, .int .i64 0, .int .i64 0, .int .i64 0, .int .i64 0], .int .i64 E]) (by simp [results, Tryd.results160, c0, c1, c2, c3, c4, c5, c6, go_sem]) rfl ⟨?_, hB⟩
    rw [HWE.out]
    rfl
end Go.Proofs.YtmbcejldifobnaaDoor

namespace Go.Proofs.YtmbcejldifobnaaDoor
open Go.RowKit
def PwRel (W : World) (A : Nat) (n : Int) (l : List Int) (iv : Value) (wr : World) : Prop :=
  ∃ i : Nat, i ≤ 6 ∧ iv = .int .i64 (i : Int) ∧ RowI wr A 22 (mixL (l.map (· * n)) l i) ∧ Below A W wr
theorem map_at {f : Int → Int} {X : List Int} {i : Nat} {x : Int} (hx : X[i]? = some x) : (X.map f)[i]? = some (f x) := by
  rw [List.getElem?_map, hx]; rfl
theorem mixL_own {Z O : List Int} {i : Nat} {x : Int} (hl : Z.length = O.length) (hx : O[i]? = some x) : (mixL Z O i)[i]? = some x := by
  have hi := (List.getElem?_eq_some_iff.1 hx).1
  have h1 : (Z.take i).length = i := by rw [List.length_take]; omega
  unfold mixL
  rw [List.getElem?_append_right (by omega), h1, Nat.sub_self, List.getElem?_drop, Nat.add_zero]
  exact hx
set_option maxRecDepth 100000 in
set_option maxHeartbeats 1000000 in
theorem Pow_any (x0 x1 x2 x3 x4 x5 xd n d : Int) (w : World) :
    Calls Tryd.prog 161 #[.agg #[.int .i64 x0, .int .i64 x1, .int .i64 x2, .int .i64 x3, .int .i64 x4, .int .i64 x5, .int .i64 xd], .int .i64 n, .int .i64 d] w (RtPost w (rpowW ⟨⟨x0, x1, x2, x3, x4, x5⟩, xd⟩ n d)) := by
  have hV : V6.scl n ⟨x0, x1, x2, x3, x4, x5⟩ = ⟨x0 * n, x1 * n, x2 * n, x3 * n, x4 * n, x5 * n⟩ := by
    refine V6.eq ?_ ?_ ?_ ?_ ?_ ?_ <;> simp only [V6.scl] <;> exact Int.mul_comm _ _
  have hW : rpowW ⟨⟨x0, x1, x2, x3, x4, x5⟩, xd⟩ n d = if Rt.err ⟨⟨x0, x1, x2, x3, x4, x5⟩, xd⟩ = 0 then (if -1000 ≤ n ∧ n ≤ 1000 ∧ -1000 ≤ d ∧ d ≤ 1000 ∧ d ≠ 0 then lowW ⟨x0 * n, x1 * n, x2 * n, x3 * n, x4 * n, x5 * n⟩ (xd * d) else (Rt.zero, 2)) else (Rt.zero, Rt.err ⟨⟨x0, x1, x2, x3, x4, x5⟩, xd⟩) := by
    unfold rpowW
    rw [← hV]
  have hokx := fun h => (Rt.ok_iff (r := ⟨⟨x0, x1, x2, x3, x4, x5⟩, xd⟩)).1 h
  have hE := exR_one ⟨⟨x0, x1, x2, x3, x4, x5⟩, xd⟩
  have hex := fun (W : World) (g : Nat) (h : W.heap[g]? = some (.cells (cellsR ⟨⟨x0, x1, x2, x3, x4, x5⟩, xd⟩).toArray 24 (0, 0))) => examineR_any g [⟨⟨x0, x1, x2, x3, x4, x5⟩, xd⟩] W (Array.getElem?_eq_some_iff.1 h).1 (cell_one1 h) (by simp)
  rw [hE] at hex
  have HEX := Lib.hid hex
  have HOX := Lib.hid hokx
  clear hex hV hE hokx
  generalize rpowW ⟨⟨x0, x1, x2, x3, x4, x5⟩, xd⟩ n d = RW at *
  have HW := Lib.hid hW
  clear hW
  generalize hee : Rt.err ⟨⟨x0, x1, x2, x3, x4, x5⟩, xd⟩ = E at *
  clear hee
  go_enter Tryd.func161, Tryd.ntmps161
  have hr2 : RowI ((w.alloc (.cells #[.int .i64 x0, .int .i64 x1, .int .i64 x2, .int .i64 x3, .int .i64 x4, .int .i64 x5, .int .i64 xd] 24)).alloc (.cells #[.int .i64 0, .int .i64 0, .int .i64 0, .int .i64 0, .int .i64 0, .int .i64 0, .int .i64 0] 24)) (w.heap.size + 1) 24 [0, 0, 0, 0, 0, 0, 0] := by
    have h := RowI.of_alloc (w.alloc (.cells #[.int .i64 x0, .int .i64 x1, .int .i64 x2, .int .i64 x3, .int .i64 x4, .int .i64 x5, .int .i64 xd] 24)) 24 [0, 0, 0, 0, 0, 0, 0]
    rw [World.size_alloc] at h
    exact h
  have hr1 : RowI ((w.alloc (.cells #[.int .i64 x0, .int .i64 x1, .int .i64 x2, .int .i64 x3, .int .i64 x4, .int .i64 x5, .int .i64 xd] 24)).alloc (.cells #[.int .i64 0, .int .i64 0, .int .i64 0, .int .i64 0, .int .i64 0, .int .i64 0, .int .i64 0] 24)) w.heap.size 24 [x0, x1, x2, x3, x4, x5, xd] := (RowI.of_alloc w 24 [x0, x1, x2, x3, x4, x5, xd]).alloc _
  have hb0 := (belA w (.cells #[.int .i64 x0, .int .i64 x1, .int .i64 x2, .int .i64 x3, .int .i64 x4, .int .i64 x5, .int .i64 xd] 24)).alloc (by simp) (.cells #[.int .i64 0, .int .i64 0, .int .i64 0, .int .i64 0, .int .i64 0, .int .i64 0, .int .i64 0] 24)
  have HR1 := Lib.hid hr1
  have HR2 := Lib.hid hr2
  have HB0 := Lib.hid hb0
  clear hr1 hr2 hb0
  go_wp2_with fail
  refine (HEX.out _ _ (by have h := heap_alloc_new ((w.alloc (.cells #[.int .i64 x0, .int .i64 x1, .int .i64 x2, .int .i64 x3, .int .i64 x4, .int .i64 x5, .int .i64 xd] 24)).alloc (.cells #[.int .i64 0, .int .i64 0, .int .i64 0, .int .i64 0, .int .i64 0, .int .i64 0, .int .i64 0] 24)) (.cells (cellsR ⟨⟨x0, x1, x2, x3, x4, x5⟩, xd⟩).toArray 24); rw [World.size_alloc, World.size_alloc] at h; exact h)).mono ?_
  rintro e w1 ⟨he, hb1⟩
  subst he
  have hb1' := (belA ((w.alloc (.cells #[.int .i64 x0, .int .i64 x1, .int .i64 x2, .int .i64 x3, .int .i64 x4, .int .i64 x5, .int .i64 xd] 24)).alloc (.cells #[.int .i64 0, .int .i64 0, .int .i64 0, .int .i64 0, .int .i64 0, .int .i64 0, .int .i64 0] 24)) _).trans (hb1.mono (by simp))
  have hr1 := HR1.out.up hb1'
  have hr2 := HR2.out.up hb1'
  have hb := HB0.out.trans (hb1'.mono (by simp; omega))
  clear HR1 HR2 HB0 hb1 hb1' HEX
  have HR1 := Lib.hid hr1
  have HR2 := Lib.hid hr2
  have HB := Lib.hid hb
  have hz := hb.size
  have hlt2 := hr2.lt
  clear hr1 hr2 hb
  obtain ⟨c0, c1, c2, c3, c4, c5, c6⟩ := HR2.out.r7
  simp only [Nat.zero_add] at c0 c1 c2 c3 c4 c5 c6
  have f0 := HR2.out.frozen 0
  have f1 := HR2.out.frozen 1
  have f2 := HR2.out.frozen 2
  have f3 := HR2.out.frozen 3
  have f4 := HR2.out.frozen 4
  have f5 := HR2.out.frozen 5
  have f6 := HR2.out.frozen 6
  by_cases hE0 : E = 0
  · subst hE0
    have okx := HOX.out rfl
    obtain ⟨bx0, bx1, bx2, bx3, bx4, bx5, bxd⟩ := okx.nums
    simp only at bx0 bx1 bx2 bx3 bx4 bx5 bxd
    clear okx
    have hW := HW.out
    rw [if_pos rfl] at hW
    clear HW
    by_cases hbad : -1000 ≤ n ∧ n ≤ 1000 ∧ -1000 ≤ d ∧ d ≤ 1000 ∧ d ≠ 0
    case neg =>
      rw [if_neg hbad] at hW
      have HW := Lib.hid hW
      clear hW
      go_wp2_with fail
      refine (within_any n (-1000) 1000 _).mono ?_
      rintro e w2 ⟨he, hw2⟩
      subst he
      subst hw2
      by_cases hn : wiB n (-1000) 1000 = true
      case neg =>
        have hn : wiB n (-1000) 1000 = false := by simpa using hn
        rw [hn]
        clear hn
        go_wp2
        change bodyPost _ _ _ _ _ (putR w1 (w.heap.size + 1) 0 0 0 0 0 0 0)
        clear c0 c1 c2 c3 c4 c5 c6
        obtain ⟨c0, c1, c2, c3, c4, c5, c6⟩ := (putR_row HR2.out 0 0 0 0 0 0 0).r7
        have hB := putR_below HB.out (show w.heap.size ≤ w.heap.size + 1 by omega) 0 0 0 0 0 0 0
        generalize putR w1 (w.heap.size + 1) 0 0 0 0 0 0 0 = W' at *
        simp only [Nat.zero_add] at c0 c1 c2 c3 c4 c5 c6
        refine bodyPost_ret (v := .tuple #[.agg #[.int .i64 0, .int .i64 0, .int .i64 0, .int .i64 0, .int .i64 0, .int .i64 0, .int .i64 0], .int .i64 2]) (by simp [results, Tryd.results161, c0, c1, c2, c3, c4, c5, c6, go_sem]) rfl ⟨?_, hB⟩
        rw [HW.out]
        rfl
      rw [hn]
      by_cases hd : wiB d (-1000) 1000 = true
      case neg =>
        have hd : wiB d (-1000) 1000 = false := by simpa using hd
        go_wp2_with fail
        refine (within_any d (-1000) 1000 _).mono ?_
        rintro e w2 ⟨he, hw2⟩
        subst he
        subst hw2
        rw [hd]
        clear hd
        go_wp2
        change bodyPost _ _ _ _ _ (putR w1 (w.heap.size + 1) 0 0 0 0 0 0 0)
        clear c0 c1 c2 c3 c4 c5 c6
        obtain ⟨c0, c1, c2, c3, c4, c5, c6⟩ := (putR_row HR2.out 0 0 0 0 0 0 0).r7
        have hB := putR_below HB.out (show w.heap.size ≤ w.heap.size + 1 by omega) 0 0 0 0 0 0 0
        generalize putR w1 (w.heap.size + 1) 0 0 0 0 0 0 0 = W' at *
        simp only [Nat.zero_add] at c0 c1 c2 c3 c4 c5 c6
        refine bodyPost_ret (v := .tuple #[.agg #[.int .i64 0, .int .i64 0, .int .i64 0, .int .i64 0, .int .i64 0, .int .i64 0, .int .i64 0], .int .i64 2]) (by simp [results, Tryd.results161, c0, c1, c2, c3, c4, c5, c6, go_sem]) rfl ⟨?_, hB⟩
        rw [HW.out]
        rfl
      go_wp2_with fail
      refine (within_any d (-1000) 1000 _).mono ?_
      rintro e w2 ⟨he, hw2⟩
      subst he
      subst hw2
      rw [hd]
      have hd0 : d = 0 := by
        unfold wiB at hn hd
        simp only [Bool.and_eq_true, decide_eq_true_eq] at hn hd
        omega
      subst hd0
      clear hn hd hbad
      go_wp2
      change bodyPost _ _ _ _ _ (putR w1 (w.heap.size + 1) 0 0 0 0 0 0 0)
      clear c0 c1 c2 c3 c4 c5 c6
      obtain ⟨c0, c1, c2, c3, c4, c5, c6⟩ := (putR_row HR2.out 0 0 0 0 0 0 0).r7
      have hB := putR_below HB.out (show w.heap.size ≤ w.heap.size + 1 by omega) 0 0 0 0 0 0 0
      generalize putR w1 (w.heap.size + 1) 0 0 0 0 0 0 0 = W' at *
      simp only [Nat.zero_add] at c0 c1 c2 c3 c4 c5 c6
      refine bodyPost_ret (v := .tuple #[.agg #[.int .i64 0, .int .i64 0, .int .i64 0, .int .i64 0, .int .i64 0, .int .i64 0, .int .i64 0], .int .i64 2]) (by simp [results, Tryd.results161, c0, c1, c2, c3, c4, c5, c6, go_sem]) rfl ⟨?_, hB⟩
      rw [HW.out]
      rfl
    rw [if_pos hbad] at hW
    obtain ⟨n1, n2, d1, d2, d0⟩ := hbad
    have hn : wiB n (-1000) 1000 = true := by unfold wiB; rw [decide_eq_true n1, decide_eq_true n2]; rfl
    have hd : wiB d (-1000) 1000 = true := by unfold wiB; rw [decide_eq_true d1, decide_eq_true d2]; rfl
    have hzl : ∀ m ∈ [x0 * n, x1 * n, x2 * n, x3 * n, x4 * n, x5 * n], -1000000000 ≤ m ∧ m ≤ 1000000000 := by
      simp only [List.mem_cons, List.not_mem_nil, or_false, forall_eq_or_imp, forall_eq]
      have q : ∀ y : Int, -100000 ≤ y ∧ y ≤ 100000 → -1000000000 ≤ y * n ∧ y * n ≤ 1000000000 := fun y hy => by
        have := mul_bd (A := 100000) (B := 1000) hy ⟨n1, n2⟩ (by omega)
        omega
      exact ⟨q _ bx0, q _ bx1, q _ bx2, q _ bx3, q _ bx4, q _ bx5⟩
    have hdd := mul_bd (a := xd) (A := 1000) (B := 1000) (by omega) ⟨d1, d2⟩ (by omega)
    have hd0 : xd * d ≠ 0 := Int.mul_ne_zero (by omega) d0
    have hlo := fun W => lowest_any (x0 * n) (x1 * n) (x2 * n) (x3 * n) (x4 * n) (x5 * n) (xd * d) W hd0 (by omega) hzl
    rw [← hW] at hlo
    have hxl : ∀ m ∈ [x0, x1, x2, x3, x4, x5], -100000 ≤ m ∧ m ≤ 100000 := by
      simp only [List.mem_cons, List.not_mem_nil, or_false, forall_eq_or_imp, forall_eq]
      exact ⟨bx0, bx1, bx2, bx3, bx4, bx5⟩
    obtain ⟨D, hD⟩ : ∃ D, xd * d = D := ⟨_, rfl⟩
    rw [hD] at hlo hdd
    have eD : IntKind.i64.wrap D = D := IntWalk.i64_in _ (by omega)
    have HLO := Lib.hid hlo
    have HXL := Lib.hid hxl
    have HDE := Lib.hid hD
    have HED := Lib.hid eD
    clear hlo hxl hzl hd0 hW hD eD bx0 bx1 bx2 bx3 bx4 bx5
    have d0b : (d == 0) = false := beq_false_of_ne d0
    obtain ⟨e0, e1, e2, e3, e4, e5, e6⟩ := HR1.out.r7
    simp only [Nat.zero_add] at e0 e1 e2 e3 e4 e5 e6
    go_wp2_with fail
    refine (within_any n (-1000) 1000 _).mono ?_
    rintro e w2 ⟨he, hw2⟩
    subst he
    subst hw2
    rw [hn]
    go_wp2_with fail
    refine (within_any d (-1000) 1000 _).mono ?_
    rintro e w2 ⟨he, hw2⟩
    subst he
    subst hw2
    rw [hd]
    clear hn hd
    go_wp2
    have ha0 : RowI (w1.alloc (.cells #[.int .i64 x0, .int .i64 x1, .int .i64 x2, .int .i64 x3, .int .i64 x4, .int .i64 x5] 22)) w1.heap.size 22 (mixL ([x0, x1, x2, x3, x4, x5].map (· * n)) [x0, x1, x2, x3, x4, x5] 0) := RowI.of_alloc w1 22 [x0, x1, x2, x3, x4, x5]
    have HA0 := Lib.hid ha0
    have HB1 := Lib.hid (belA w1 (.cells #[.int .i64 x0, .int .i64 x1, .int .i64 x2, .int .i64 x3, .int .i64 x4, .int .i64 x5] 22))
    clear ha0 c0 c1 c2 c3 c4 c5 c6 f0 f1 f2 f3 f4 f5 f6 e0 e1 e2 e3 e4 e5 e6
    go_loopw [33] (fun iv wr => PwRel w1 w1.heap.size n [x0, x1, x2, x3, x4, x5] iv wr) (fun iv _ => 6 - (intOf iv).toNat)
    case atStart => exact ⟨0, Nat.zero_le _, rfl, HA0.out, HB1.out⟩
    case round =>
      clear HA0 HB1
      obtain ⟨i, hi, rfl, hrow, hb⟩ := hrel
      have HROW := Lib.hid hrow
      have HBR := Lib.hid hb
      clear hrow hb
      by_cases hil : i < 6
      · obtain ⟨x, hx⟩ : ∃ x, [x0, x1, x2, x3, x4, x5][i]? = some x := ⟨[x0, x1, x2, x3, x4, x5][i], List.getElem?_eq_getElem _⟩
        have hilI : (i : Int) < 6 := by omega
        have hiI : (0 : Int) ≤ (i : Int) := by omega
        have hxb := HXL.out x (List.mem_of_getElem? hx)
        have m0 := HROW.out.cell (mixL_own (Z := [x0, x1, x2, x3, x4, x5].map (· * n)) rfl hx)
        have fm := HROW.out.frozen i
        have hset := mixL_set (Z := [x0, x1, x2, x3, x4, x5].map (· * n)) (O := [x0, x1, x2, x3, x4, x5]) rfl (map_at hx)
        have p1 := mul_bd (A := 100000) (B := 1000) hxb ⟨n1, n2⟩ (by omega)
        obtain ⟨y, hy⟩ : ∃ y, x * n = y := ⟨_, rfl⟩
        rw [hy] at p1
        simp only [hy] at hset
        have hy2 : IntKind.i64.wrap y = y := IntWalk.i64_in _ (by omega)
        have HSET := Lib.hid hset
        clear hx hset
        go_wp2
        refine ⟨⟨i + 1, by omega, by go_num, ?_, HBR.out.setCell (Nat.le_refl _) _⟩, by simp [intOf]; omega⟩
        have h := HROW.out.set i y
        rw [HSET.out] at h
        exact h
      · obtain rfl : i = 6 := by omega
        have hl6 : mixL ([x0, x1, x2, x3, x4, x5].map (· * n)) [x0, x1, x2, x3, x4, x5] 6 = [x0 * n, x1 * n, x2 * n, x3 * n, x4 * n, x5 * n] := rfl
        have hrow := HROW.out
        rw [hl6] at hrow
        generalize x0 * n = y0 at *
        generalize x1 * n = y1 at *
        generalize x2 * n = y2 at *
        generalize x3 * n = y3 at *
        generalize x4 * n = y4 at *
        generalize x5 * n = y5 at *
        have m0 := hrow.cell (i := 0) (x := y0) rfl
        have m1 := hrow.cell (i := 1) (x := y1) rfl
        have m2 := hrow.cell (i := 2) (x := y2) rfl
        have m3 := hrow.cell (i := 3) (x := y3) rfl
        have m4 := hrow.cell (i := 4) (x := y4) rfl
        have m5 := hrow.cell (i := 5) (x := y5) rfl
        have k6 := (HR1.out.up HBR.out).cell (i := 6) (x := xd) rfl
        have hr2 := HR2.out.up HBR.out
        have hb := HB.out.trans (HBR.out.mono hz)
        have hzr := hb.size
        have hDE := HDE.out
        have hED := HED.out
        clear HROW hl6 hrow HR2 HB HR1
        have HR2 := Lib.hid hr2
        have HB := Lib.hid hb
        clear hr2 hb
        go_wp2_with fail
        refine (HLO.out _).mono ?_
        rintro e w3 ⟨he, hb3⟩
        obtain ⟨⟨⟨r0, r1, r2, r3, r4, r5⟩, rd⟩, re⟩ := RW
        unfold rtv at he
        simp only at he
        subst he
        have hr2 := HR2.out.up hb3
        have hb := HB.out.trans (hb3.mono hzr)
        clear HR2 HB HLO hb3 hDE
        obtain ⟨c0, c1, c2, c3, c4, c5, c6⟩ := hr2.r7
        simp only [Nat.zero_add] at c0 c1 c2 c3 c4 c5 c6
        have f0 := hr2.frozen 0
        have f1 := hr2.frozen 1
        have f2 := hr2.frozen 2
        have f3 := hr2.frozen 3
        have f4 := hr2.frozen 4
        have f5 := hr2.frozen 5
        have f6 := hr2.frozen 6
        have HR2 := Lib.hid hr2
        have HB := Lib.hid hb
        clear hr2 hb
        go_wp2
        change bodyPost _ _ _ _ _ (putR w3 (w.heap.size + 1) r0 r1 r2 r3 r4 r5 rd)
        clear c0 c1 c2 c3 c4 c5 c6
        obtain ⟨c0, c1, c2, c3, c4, c5, c6⟩ := (putR_row HR2.out r0 r1 r2 r3 r4 r5 rd).r7
        have hB := putR_below HB.out (show w.heap.size ≤ w.heap.size + 1 by omega) r0 r1 r2 r3 r4 r5 rd
        generalize putR w3 (w.heap.size + 1) r0 r1 r2 r3 r4 r5 rd = W' at *
        simp only [Nat.zero_add] at c0 c1 c2 c3 c4 c5 c6
        refine bodyPost_ret (v := .tuple #[.agg #[.int .i64 r0, .int .i64 r1, .int .i64 r2, .int .i64 r3, .int .i64 r4, .int .i64 r5, .int .i64 rd], .int .i64 re]) (by simp [results, Tryd.results161, c0, c1, c2, c3, c4, c5, c6, go_sem]) rfl ⟨?_, hB⟩
        rfl
  · have hEb : (E != 0) = true := by simp [hE0]
    have hW := HW.out
    rw [if_neg hE0] at hW
    have HWE := Lib.hid hW
    clear hW HW hE0
    go_wp2
    change bodyPost _ _ _ _ _ (putR w1 (w.heap.size + 1) 0 0 0 0 0 0 0)
    clear c0 c1 c2 c3 c4 c5 c6
    obtain ⟨c0, c1, c2, c3, c4, c5, c6⟩ := (putR_row HR2.out 0 0 0 0 0 0 0).r7
    have hB := putR_below HB.out (show w.heap.size ≤ w.heap.size + 1 by omega) 0 0 0 0 0 0 0
    generalize putR w1 (w.heap.size + 1) 0 0 0 0 0 0 0 = W' at *
    simp only [Nat.zero_add] at c0 c1 c2 c3 c4 c5 c6
    refine bodyPost_ret (v := .tuple #[.agg #[.int .i64 0, .int .i64 0, .int .i64 0, .int .i64 0, .int .i64 0, .int .i64 0, .int .i64 0], .int .i64 E]) (by simp [results, Tryd.results161, c0, c1, c2, c3, c4, c5, c6, go_sem]) rfl ⟨?_, hB⟩
    rw [HWE.out]
    rfl

end Go.Proofs.YtmbcejldifobnaaDoor

namespace Go.Proofs.YtmbcejldifobnaaDoor
open Go.RowKit
def FlW (v : V6) (s d m : Int) (b : Bool) (er : Int) : Prop :=
  (er = 0 ∧ FlIs v s d m ∧ b = (Fl v s d m == 0) ∧ -1000000000000 ≤ m ∧ m ≤ 1000000000000) ∨ (er = 7 ∧ m = 0 ∧ b = false ∧ (Fl v s d (-1000000000000) < 0 ∨ 0 ≤ Fl v s d 1000000000001))
theorem zl_mem {v : V6} {x : Nat × Int} (h : x ∈ nz v.zl) : (2 ≤ x.1 ∧ x.1 ≤ 13) ∧ x.2 ∈ v.l := by
  have h1 := (List.mem_filter.1 h).1
  have h2 := List.of_mem_zip h1
  refine ⟨?_, h2.2⟩
  have h3 := h2.1
  simp only [ps6, List.mem_cons, List.not_mem_nil, or_false] at h3
  omega
theorem nz_valid {v : V6} (h : ∀ n ∈ v.l, -100000 ≤ n ∧ n ≤ 100000) : validL (nz v.zl) := by
  refine ⟨?_, fun x hx => ?_⟩
  · refine Nat.le_trans (nz_len _) ?_
    unfold V6.zl V6.l ps6
    simp
  · obtain ⟨h1, h2⟩ := zl_mem hx
    have := h _ h2
    omega
theorem zl_sign {v : V6} (h : ∀ n ∈ v.l, -100000 ≤ n ∧ n ≤ 100000) {s d m : Int} (hs1 : 1 ≤ s) (hs2 : s ≤ 1200000) (hd1 : 1 ≤ d) (hd2 : d ≤ 1000) (h1 : -1000000000000 ≤ m) (h2 : m ≤ 1000000000001) : SignOk (scL s (nz v.zl) ++ [(2, -(m * d))]) 36 := by
  have hx : ∀ x ∈ scL s (nz v.zl), 1 ≤ x.1 ∧ x.1 ≤ 13 ∧ x.2.natAbs ≤ 120000000000 := by
    intro x hx
    unfold scL at hx
    obtain ⟨y, hy, rfl⟩ := List.mem_map.1 hx
    obtain ⟨h3, h4⟩ := zl_mem hy
    have h5 := mul_bd (a := y.2) (b := s) (A := 100000) (B := 1200000) (h _ h4) ⟨by omega, hs2⟩ (by omega)
    refine ⟨by simp only; omega, by simp only; omega, ?_⟩
    show (y.2 * s).natAbs ≤ _
    omega
  obtain ⟨s1, s2⟩ := sums_le (N := 13) (e := 120000000000) (w := 3) (by decide) hx
  have hl : (scL s (nz v.zl)).length ≤ 6 := by
    rw [scL_len]
    refine Nat.le_trans (nz_len _) ?_
    unfold V6.zl V6.l ps6
    simp
  have h3 : nA (scL s (nz v.zl)) ≤ 720000000000 := Nat.le_trans s1 (Nat.le_trans (Nat.mul_le_mul_right _ hl) (by decide))
  have h4 : wA (scL s (nz v.zl)) ≤ 2160000000000 := Nat.le_trans s2 (Nat.le_trans (Nat.mul_le_mul_right _ hl) (by decide))
  have h5 := mul_bd (a := m) (b := d) (A := 1000000000001) (B := 1000) ⟨by omega, h2⟩ ⟨by omega, hd2⟩ (by omega)
  have h6 : (-(m * d)).natAbs ≤ 1000000000001000 := by omega
  have e2 : Nat.log2 2 = 1 := by decide
  have hk : (64 : Nat) * 2 ^ 36 - 2 = 4398046511102 := by decide
  refine SignOk.snoc (fun x hx' => ⟨(hx x hx').1, by have := (hx x hx').2.1; omega⟩) (by omega) (by omega) (by omega) ?_ (by omega) (by omega) (by omega)
  rw [e2]; omega
theorem floorV_any (v : Value) (V : V6) (d s : Int) (w : World) (hv : TmC w w.heap.size v (nz V.zl)) (h : ∀ n ∈ V.l, -100000 ≤ n ∧ n ≤ 100000) (hd1 : 1 ≤ d) (hd2 : d ≤ 1000) (hs1 : 1 ≤ s) (hs2 : s ≤ 1200000) :
    Calls Tryd.prog 46 #[v, .int .i64 d, .int .i64 s] w fun e w' => ∃ (m : Int) (b : Bool) (er : Int), e = .returned (.tuple #[.int .i64 m, .bool b, .int .i64 er]) ∧ FlW V s d m b er ∧ Below w.heap.size w w' := by
  refine (Floor_any v (nz V.zl) d s 36 w hv (nz_valid h) hd1 (by omega) hs1 (by omega) (fun m m1 m2 => zl_sign h hs1 hs2 hd1 hd2 m1 m2)).mono ?_
  rintro e w' ⟨hsp, hb⟩
  have hf : ∀ m, sgnP (scL s (nz V.zl) ++ [(2, -(m * d))]) = Fl V s d m := fun m => Fl_of V s d m (by omega)
  unfold SrPost at hsp
  simp only [hf] at hsp
  rcases hsp with ⟨hc, he⟩ | ⟨hc, m, m1, m2, m3, m4, he⟩
  · exact ⟨0, false, 7, he, .inr ⟨rfl, rfl, rfl, hc⟩, hb⟩
  · exact ⟨m, Fl V s d m == 0, 0, he, .inl ⟨rfl, ⟨m3, m4⟩, rfl, m1, m2⟩, hb⟩
theorem cell_bd6 {x0 x1 x2 x3 x4 x5 xd : Int} (h : Rt.Ok ⟨⟨x0, x1, x2, x3, x4, x5⟩, xd⟩) : (∀ n ∈ V6.l ⟨x0, x1, x2, x3, x4, x5⟩, -100000 ≤ n ∧ n ≤ 100000) ∧ 1 ≤ xd ∧ xd ≤ 1000 := h.bds
end Go.Proofs.YtmbcejldifobnaaDoor

namespace Go.Proofs.YtmbcejldifobnaaDoor
theorem two_up {l : List (Nat × Int)} (hp : posN l) {M : Int} (hM : ((wA l + nA l : Nat) : Int) ≤ M) : 0 ≤ sgnP (l ++ [(2, M)]) := by
  rw [sgn_ge, upP_snoc, dnP_snoc, show (-M).toNat = 0 by omega, Nat.pow_zero, Nat.mul_one]
  have h1 := Nat.le_trans (dn_le_all hp) (allP_le hp)
  have h2 : 2 ^ (wA l + nA l) ≤ 2 ^ M.toNat := Nat.pow_le_pow_right (by omega) (by omega)
  exact Nat.le_trans (Nat.le_trans h1 h2) (Nat.le_mul_of_pos_left _ (upP_pos' hp))
theorem two_dn {l : List (Nat × Int)} (hp : posN l) {M : Int} (hM : ((wA l + nA l : Nat) : Int) < -M) : sgnP (l ++ [(2, M)]) < 0 := by
  rw [sgn_lt, upP_snoc, dnP_snoc, show M.toNat = 0 by omega, Nat.pow_zero, Nat.mul_one]
  have h1 := Nat.le_trans (up_le_all hp) (allP_le hp)
  have h2 : 2 ^ (wA l + nA l) < 2 ^ (-M).toNat := Nat.pow_lt_pow_right (by omega) (by omega)
  exact Nat.lt_of_lt_of_le (Nat.lt_of_le_of_lt h1 h2) (Nat.le_mul_of_pos_left _ (dnP_pos' hp))
theorem zl_mem6 {v : V6} {x : Nat × Int} (h : x ∈ v.zl) : (2 ≤ x.1 ∧ x.1 ≤ 13) ∧ x.2 ∈ v.l := by
  have h2 := List.of_mem_zip h
  refine ⟨?_, h2.2⟩
  have h3 := h2.1
  simp only [ps6, List.mem_cons, List.not_mem_nil, or_false] at h3
  omega
theorem sums6 {v : V6} {b : Nat} (h : ∀ n ∈ v.l, n.natAbs ≤ b) : wA v.zl + nA v.zl ≤ 24 * b := by
  obtain ⟨s1, s2⟩ := sums_le (N := 13) (e := b) (w := 3) (by decide) (l := v.zl) fun x hx => by
    obtain ⟨h1, h2⟩ := zl_mem6 hx
    exact ⟨by omega, h1.2, h _ h2⟩
  have hl : v.zl.length = 6 := by unfold V6.zl V6.l ps6; simp
  rw [hl] at s1 s2
  omega
theorem Fl_two (v : V6) (s d m : Int) : Fl v s d m = sgnP ((V6.scl s v).zl ++ [(2, -(m * d))]) := by
  have h := two_eqv (V6.scl s v) (-(m * d))
  unfold Fl Sg
  exact h.sgn (V6.pos _) (posN_append.2 ⟨V6.pos _, fun x hx => by rw [List.mem_singleton] at hx; subst hx; show 1 ≤ 2; omega⟩)
theorem Fl_far {v : V6} {s d : Int} {b : Nat} (h : ∀ n ∈ v.l, n.natAbs ≤ b) (hs : 0 ≤ s) {m : Int} (hm : 24 * (b : Int) * s < m * d) : 0 ≤ Fl v s d (-m) ∧ Fl v s d m < 0 := by
  have h1 := sums6 (v := V6.scl s v) (b := s.natAbs * b) (by
    intro n hn
    rw [V6.scl_l] at hn
    obtain ⟨x, hx, rfl⟩ := List.mem_map.1 hn
    rw [Int.natAbs_mul]
    exact Nat.mul_le_mul_left _ (h x hx))
  have h2 : ((wA (V6.scl s v).zl + nA (V6.scl s v).zl : Nat) : Int) ≤ 24 * (b : Int) * s := by
    have e : 24 * (b : Int) * s = ((24 * (s.natAbs * b) : Nat) : Int) := by
      rw [Int.natCast_mul, Int.natCast_mul, show ((s.natAbs : Nat) : Int) = s by omega]
      rw [show ((24 : Nat) : Int) = 24 from rfl]
      rw [Int.mul_assoc, Int.mul_comm (b : Int) s]
    rw [e]; omega
  constructor
  · rw [Fl_two]
    refine two_up (V6.pos _) ?_
    rw [Int.neg_mul, Int.neg_neg]; omega
  · rw [Fl_two]
    refine two_dn (V6.pos _) ?_
    omega
end Go.Proofs.YtmbcejldifobnaaDoor

namespace Go.Proofs.YtmbcejldifobnaaDoor
open Go.RowKit
def TePost (w : World) (x : Rt) (e : Ending) (w' : World) : Prop :=
  (x.err = 0 ∧ ∃ v, e = .returned (.tuple #[v, .int .i64 x.d, .int .i64 0]) ∧ RowT w' w.heap.size v (nz x.v.zl) ∧ Below w.heap.size w w') ∨
  (x.err ≠ 0 ∧ e = .returned (.tuple #[.slice none 0 0, .int .i64 0, .int .i64 x.err]) ∧ Below w.heap.size w w')
set_option maxRecDepth 100000 in
set_option maxHeartbeats 1000000 in
theorem Terms_any (x0 x1 x2 x3 x4 x5 xd : Int) (w : World) (hp : PrL w) :
    Calls Tryd.prog 163 #[.agg #[.int .i64 x0, .int .i64 x1, .int .i64 x2, .int .i64 x3, .int .i64 x4, .int .i64 x5, .int .i64 xd]] w (TePost w ⟨⟨x0, x1, x2, x3, x4, x5⟩, xd⟩) := by
  have hE := exR_one ⟨⟨x0, x1, x2, x3, x4, x5⟩, xd⟩
  have hokx := fun h => (Rt.ok_iff (r := ⟨⟨x0, x1, x2, x3, x4, x5⟩, xd⟩)).1 h
  have hex := fun (W : World) (g : Nat) (h : W.heap[g]? = some (.cells (cellsR ⟨⟨x0, x1, x2, x3, x4, x5⟩, xd⟩).toArray 24 (0, 0))) => examineR_any g [⟨⟨x0, x1, x2, x3, x4, x5⟩, xd⟩] W (Array.getElem?_eq_some_iff.1 h).1 (cell_one1 h) (by simp)
  rw [hE] at hex
  have HEX := Lib.hid hex
  have HOX := Lib.hid hokx
  have HP := Lib.hid hp
  clear hex hE hokx hp
  have hCt : ∀ e w', TePost w ⟨⟨x0, x1, x2, x3, x4, x5⟩, xd⟩ e w' = ((Rt.err ⟨⟨x0, x1, x2, x3, x4, x5⟩, xd⟩ = 0 ∧ ∃ v, e = .returned (.tuple #[v, .int .i64 xd, .int .i64 0]) ∧ RowT w' w.heap.size v (nz (V6.zl ⟨x0, x1, x2, x3, x4, x5⟩)) ∧ Below w.heap.size w w') ∨ (Rt.err ⟨⟨x0, x1, x2, x3, x4, x5⟩, xd⟩ ≠ 0 ∧ e = .returned (.tuple #[.slice none 0 0, .int .i64 0, .int .i64 (Rt.err ⟨⟨x0, x1, x2, x3, x4, x5⟩, xd⟩)]) ∧ Below w.heap.size w w')) := fun _ _ => rfl
  have HCT := Lib.hid hCt
  clear hCt
  generalize TePost w ⟨⟨x0, x1, x2, x3, x4, x5⟩, xd⟩ = Post at *
  generalize hee : Rt.err ⟨⟨x0, x1, x2, x3, x4, x5⟩, xd⟩ = E at *
  clear hee
  go_enter Tryd.func163, Tryd.ntmps163
  have HR1 := Lib.hid (RowI.of_alloc w 24 [x0, x1, x2, x3, x4, x5, xd])
  have HB0 := Lib.hid (belA w (.cells #[.int .i64 x0, .int .i64 x1, .int .i64 x2, .int .i64 x3, .int .i64 x4, .int .i64 x5, .int .i64 xd] 24))
  go_wp2_with fail
  refine (HEX.out _ _ (by have h := heap_alloc_new (w.alloc (.cells #[.int .i64 x0, .int .i64 x1, .int .i64 x2, .int .i64 x3, .int .i64 x4, .int .i64 x5, .int .i64 xd] 24)) (.cells (cellsR ⟨⟨x0, x1, x2, x3, x4, x5⟩, xd⟩).toArray 24); rw [World.size_alloc] at h; exact h)).mono ?_
  rintro e w1 ⟨he, hb1⟩
  subst he
  have hb1' := (belA (w.alloc (.cells #[.int .i64 x0, .int .i64 x1, .int .i64 x2, .int .i64 x3, .int .i64 x4, .int .i64 x5, .int .i64 xd] 24)) _).trans (hb1.mono (by simp))
  have hr1 := HR1.out.up hb1'
  have hb := HB0.out.trans (hb1'.mono (by simp))
  clear HR1 HB0 hb1 hb1' HEX
  have HR1 := Lib.hid hr1
  have HB := Lib.hid hb
  have hz := hb.size
  clear hr1 hb
  by_cases hE0 : E = 0
  · subst hE0
    have hpo : ∀ W, Below w1.heap.size w1 W → Calls Tryd.prog 42 #[.agg #[.int .i64 x0, .int .i64 x1, .int .i64 x2, .int .i64 x3, .int .i64 x4, .int .i64 x5]] W fun e w' => ∃ v, e = .returned v ∧ RowT w' w.heap.size v (nz (V6.zl ⟨x0, x1, x2, x3, x4, x5⟩)) ∧ Below w1.heap.size w1 w' := fun W hW => by
      refine (powersOf_any x0 x1 x2 x3 x4 x5 W (HP.out.below (HB.out.trans (hW.mono hz)))).mono ?_
      rintro e w' ⟨v, he, hr, hb⟩
      refine ⟨v, he, ?_, hW.trans (hb.mono hW.size)⟩
      have hzz := Nat.le_trans hz hW.size
      refine ⟨hr.1, ?_⟩
      rcases hr.2 with h | ⟨g, cap, cur, h1, h2, h3⟩
      · exact .inl h
      · exact .inr ⟨g, cap, cur, h1, Nat.le_trans hzz h2, h3⟩
    have HPO := Lib.hid hpo
    clear hpo
    obtain ⟨c0, c1, c2, c3, c4, c5, c6⟩ := HR1.out.r7
    simp only [Nat.zero_add] at c0 c1 c2 c3 c4 c5 c6
    go_wp2
    go_region_held3 (fun w' => w'.cell? ⟨w.heap.size, 0, none⟩ = some (.int .i64 x0) ∧ w'.cell? ⟨w.heap.size, 1, none⟩ = some (.int .i64 x1) ∧ w'.cell? ⟨w.heap.size, 2, none⟩ = some (.int .i64 x2) ∧ w'.cell? ⟨w.heap.size, 3, none⟩ = some (.int .i64 x3) ∧ w'.cell? ⟨w.heap.size, 4, none⟩ = some (.int .i64 x4) ∧ w'.cell? ⟨w.heap.size, 5, none⟩ = some (.int .i64 x5) ∧ w'.cell? ⟨w.heap.size, 6, none⟩ = some (.int .i64 xd))
      (first | (refine ⟨?_, ?_, ?_, ?_, ?_, ?_, ?_⟩ <;> with_reducible assumption) | go_keep)
      (first
        | (go_at_call 42; refine Calls.mono (HPO.out _ ((Below.refl _ w1).drew)) ?_; clear HPO; rintro e w2 ⟨v, he, htm, hb2⟩; subst he; have HTM := Lib.hid htm; have HB2 := Lib.hid (HB.out.trans (hb2.mono hz)); clear htm; clear c0 c1 c2 c3 c4 c5 c6; obtain ⟨c0, c1, c2, c3, c4, c5, c6⟩ := (HR1.out.up hb2).r7; simp only [Nat.zero_add] at c0 c1 c2 c3 c4 c5 c6; clear hb2))
    go_wp2
    go_ret3
    rw [HCT.out]
    exact .inl ⟨trivial, v, rfl, HTM.out, HB2.out⟩
  · have hEb : (E != 0) = true := by simp [hE0]
    have HE0 := Lib.hid hE0
    clear hE0
    go_wp2
    go_ret3
    rw [HCT.out]
    exact .inr ⟨HE0.out, rfl, HB.out⟩
/-- What Fold returns. -/
def foR (x : Rt) (k : Int) : Rt := ⟨x.v.two (-(k * x.d)), x.d⟩
def FdPost (w : World) (x : Rt) (e : Ending) (w' : World) : Prop :=
  (x.err = 0 ∧ ∃ k : Int, FlIs x.v 1 x.d k ∧ -3000000 ≤ k ∧ k ≤ 3000000 ∧ Below w.heap.size w w' ∧
    (((foR x k).fits = true ∧ e = .returned (.tuple #[rtv (foR x k), .int .i64 k, .int .i64 0])) ∨ ((foR x k).fits = false ∧ e = .returned (.tuple #[rtv Rt.zero, .int .i64 0, .int .i64 7])))) ∨
  (x.err ≠ 0 ∧ e = .returned (.tuple #[rtv Rt.zero, .int .i64 0, .int .i64 x.err]) ∧ Below w.heap.size w w')
theorem fold_one {v : V6} {d m : Int} {b : Bool} {er : Int} (h : ∀ n ∈ v.l, -100000 ≤ n ∧ n ≤ 100000) (hd : 1 ≤ d) (hw : FlW v 1 d m b er) : er = 0 ∧ FlIs v 1 d m ∧ -3000000 ≤ m ∧ m ≤ 3000000 := by
  have hb : ∀ n ∈ v.l, n.natAbs ≤ 100000 := fun n hn => by have := h n hn; omega
  have hfar : ∀ M : Int, 2400001 ≤ M → 0 ≤ Fl v 1 d (-M) ∧ Fl v 1 d M < 0 := fun M hM => by
    refine Fl_far (b := 100000) hb (by omega) ?_
    have := Int.mul_le_mul_of_nonneg_left hd (show 0 ≤ M by omega)
    omega
  rcases hw with ⟨h1, h2, -, h4, h5⟩ | ⟨-, -, -, h3⟩
  · refine ⟨h1, h2, ?_, ?_⟩
    · have := h2.le (by omega) (hfar 3000000 (by omega)).1; omega
    · rcases Int.lt_or_le 3000000 m with h6 | h6
      · have := Fl_anti (by omega) (Int.le_of_lt h6) h2.1
        have := (hfar 3000000 (by omega)).2
        omega
      · exact h6
  · exfalso
    rcases h3 with h3 | h3
    · have := (hfar 1000000000000 (by omega)).1; omega
    · have := (hfar 1000000000001 (by omega)).2; omega
set_option maxRecDepth 100000 in
set_option maxHeartbeats 1000000 in
theorem Fold_any (x0 x1 x2 x3 x4 x5 xd : Int) (w : World) (hp : PrL w) :
    Calls Tryd.prog 11 #[.agg #[.int .i64 x0, .int .i64 x1, .int .i64 x2, .int .i64 x3, .int .i64 x4, .int .i64 x5, .int .i64 xd]] w (FdPost w ⟨⟨x0, x1, x2, x3, x4, x5⟩, xd⟩) := by
  have hE := exR_one ⟨⟨x0, x1, x2, x3, x4, x5⟩, xd⟩
  have hokx := fun h => (Rt.ok_iff (r := ⟨⟨x0, x1, x2, x3, x4, x5⟩, xd⟩)).1 h
  have hex := fun (W : World) (g : Nat) (h : W.heap[g]? = some (.cells (cellsR ⟨⟨x0, x1, x2, x3, x4, x5⟩, xd⟩).toArray 24 (0, 0))) => examineR_any g [⟨⟨x0, x1, x2, x3, x4, x5⟩, xd⟩] W (Array.getElem?_eq_some_iff.1 h).1 (cell_one1 h) (by simp)
  rw [hE] at hex
  have HEX := Lib.hid hex
  have HOX := Lib.hid hokx
  have HP := Lib.hid hp
  clear hex hE hokx hp
  have hCt : ∀ e w', FdPost w ⟨⟨x0, x1, x2, x3, x4, x5⟩, xd⟩ e w' = ((Rt.err ⟨⟨x0, x1, x2, x3, x4, x5⟩, xd⟩ = 0 ∧ ∃ k : Int, FlIs ⟨x0, x1, x2, x3, x4, x5⟩ 1 xd k ∧ -3000000 ≤ k ∧ k ≤ 3000000 ∧ Below w.heap.size w w' ∧ (((foR ⟨⟨x0, x1, x2, x3, x4, x5⟩, xd⟩ k).fits = true ∧ e = .returned (.tuple #[rtv (foR ⟨⟨x0, x1, x2, x3, x4, x5⟩, xd⟩ k), .int .i64 k, .int .i64 0])) ∨ ((foR ⟨⟨x0, x1, x2, x3, x4, x5⟩, xd⟩ k).fits = false ∧ e = .returned (.tuple #[rtv Rt.zero, .int .i64 0, .int .i64 7])))) ∨ (Rt.err ⟨⟨x0, x1, x2, x3, x4, x5⟩, xd⟩ ≠ 0 ∧ e = .returned (.tuple #[rtv Rt.zero, .int .i64 0, .int .i64 (Rt.err ⟨⟨x0, x1, x2, x3, x4, x5⟩, xd⟩)]) ∧ Below w.heap.size w w')) := fun _ _ => rfl
  have HCT := Lib.hid hCt
  clear hCt
  generalize FdPost w ⟨⟨x0, x1, x2, x3, x4, x5⟩, xd⟩ = Post at *
  generalize hee : Rt.err ⟨⟨x0, x1, x2, x3, x4, x5⟩, xd⟩ = E at *
  clear hee
  go_enter Tryd.func11, Tryd.ntmps11
  have hr2 : RowI ((w.alloc (.cells #[.int .i64 x0, .int .i64 x1, .int .i64 x2, .int .i64 x3, .int .i64 x4, .int .i64 x5, .int .i64 xd] 24)).alloc (.cells #[.int .i64 0, .int .i64 0, .int .i64 0, .int .i64 0, .int .i64 0, .int .i64 0, .int .i64 0] 24)) (w.heap.size + 1) 24 [0, 0, 0, 0, 0, 0, 0] := by
    have h := RowI.of_alloc (w.alloc (.cells #[.int .i64 x0, .int .i64 x1, .int .i64 x2, .int .i64 x3, .int .i64 x4, .int .i64 x5, .int .i64 xd] 24)) 24 [0, 0, 0, 0, 0, 0, 0]
    rw [World.size_alloc] at h
    exact h
  have hr1 : RowI ((w.alloc (.cells #[.int .i64 x0, .int .i64 x1, .int .i64 x2, .int .i64 x3, .int .i64 x4, .int .i64 x5, .int .i64 xd] 24)).alloc (.cells #[.int .i64 0, .int .i64 0, .int .i64 0, .int .i64 0, .int .i64 0, .int .i64 0, .int .i64 0] 24)) w.heap.size 24 [x0, x1, x2, x3, x4, x5, xd] := (RowI.of_alloc w 24 [x0, x1, x2, x3, x4, x5, xd]).alloc _
  have hb0 := (belA w (.cells #[.int .i64 x0, .int .i64 x1, .int .i64 x2, .int .i64 x3, .int .i64 x4, .int .i64 x5, .int .i64 xd] 24)).alloc (by simp) (.cells #[.int .i64 0, .int .i64 0, .int .i64 0, .int .i64 0, .int .i64 0, .int .i64 0, .int .i64 0] 24)
  have HR1 := Lib.hid hr1
  have HR2 := Lib.hid hr2
  have HB0 := Lib.hid hb0
  clear hr1 hr2 hb0
  go_wp2_with fail
  refine (HEX.out _ _ (by have h := heap_alloc_new ((w.alloc (.cells #[.int .i64 x0, .int .i64 x1, .int .i64 x2, .int .i64 x3, .int .i64 x4, .int .i64 x5, .int .i64 xd] 24)).alloc (.cells #[.int .i64 0, .int .i64 0, .int .i64 0, .int .i64 0, .int .i64 0, .int .i64 0, .int .i64 0] 24)) (.cells (cellsR ⟨⟨x0, x1, x2, x3, x4, x5⟩, xd⟩).toArray 24); rw [World.size_alloc, World.size_alloc] at h; exact h)).mono ?_
  rintro e w1 ⟨he, hb1⟩
  subst he
  have hb1' := (belA ((w.alloc (.cells #[.int .i64 x0, .int .i64 x1, .int .i64 x2, .int .i64 x3, .int .i64 x4, .int .i64 x5, .int .i64 xd] 24)).alloc (.cells #[.int .i64 0, .int .i64 0, .int .i64 0, .int .i64 0, .int .i64 0, .int .i64 0, .int .i64 0] 24)) _).trans (hb1.mono (by simp))
  have hr1 := HR1.out.up hb1'
  have hr2 := HR2.out.up hb1'
  have hb := HB0.out.trans (hb1'.mono (by simp; omega))
  clear HR1 HR2 HB0 hb1 hb1' HEX
  have HR1 := Lib.hid hr1
  have HR2 := Lib.hid hr2
  have HB := Lib.hid hb
  have hz := hb.size
  clear hr1 hr2 hb
  by_cases hE0 : E = 0
  · subst hE0
    have okx := HOX.out rfl
    obtain ⟨hbd, hd1, hd2⟩ := cell_bd6 okx
    obtain ⟨bx0, -⟩ := okx.nums
    simp only at bx0
    have HBD := Lib.hid hbd
    clear okx hbd
    have hpo : ∀ W, Below w1.heap.size w1 W → Calls Tryd.prog 42 #[.agg #[.int .i64 x0, .int .i64 x1, .int .i64 x2, .int .i64 x3, .int .i64 x4, .int .i64 x5]] W fun e w' => ∃ v, e = .returned v ∧ TmC w' w'.heap.size v (nz (V6.zl ⟨x0, x1, x2, x3, x4, x5⟩)) ∧ Below w1.heap.size w1 w' := fun W hW => by
      refine (powersOf_any x0 x1 x2 x3 x4 x5 W (HP.out.below (HB.out.trans (hW.mono hz)))).mono ?_
      rintro e w' ⟨v, he, hr, hb⟩
      exact ⟨v, he, hr.tmc, hW.trans (hb.mono hW.size)⟩
    have hfl : ∀ (v : Value) (W : World), TmC W W.heap.size v (nz (V6.zl ⟨x0, x1, x2, x3, x4, x5⟩)) → Below w1.heap.size w1 W → Calls Tryd.prog 46 #[v, .int .i64 xd, .int .i64 1] W fun e w' => ∃ (m : Int) (b : Bool), e = .returned (.tuple #[.int .i64 m, .bool b, .int .i64 0]) ∧ (FlIs ⟨x0, x1, x2, x3, x4, x5⟩ 1 xd m ∧ -3000000 ≤ m ∧ m ≤ 3000000) ∧ Below w1.heap.size w1 w' := fun v W hv hW => by
      refine (floorV_any v ⟨x0, x1, x2, x3, x4, x5⟩ xd 1 W hv HBD.out hd1 hd2 (by omega) (by omega)).mono ?_
      rintro e w' ⟨m, b, er, he, hf, hb⟩
      obtain ⟨h0, hf2⟩ := fold_one HBD.out hd1 hf
      subst h0
      exact ⟨m, b, he, hf2, hW.trans (hb.mono hW.size)⟩
    have HPO := Lib.hid hpo
    have HFL := Lib.hid hfl
    clear hpo hfl
    obtain ⟨c0, c1, c2, c3, c4, c5, c6⟩ := HR1.out.r7
    simp only [Nat.zero_add] at c0 c1 c2 c3 c4 c5 c6
    go_wp2
    go_region_held3 (fun w' => w'.cell? ⟨w.heap.size, 0, none⟩ = some (.int .i64 x0) ∧ w'.cell? ⟨w.heap.size, 1, none⟩ = some (.int .i64 x1) ∧ w'.cell? ⟨w.heap.size, 2, none⟩ = some (.int .i64 x2) ∧ w'.cell? ⟨w.heap.size, 3, none⟩ = some (.int .i64 x3) ∧ w'.cell? ⟨w.heap.size, 4, none⟩ = some (.int .i64 x4) ∧ w'.cell? ⟨w.heap.size, 5, none⟩ = some (.int .i64 x5) ∧ w'.cell? ⟨w.heap.size, 6, none⟩ = some (.int .i64 xd))
      (first | (refine ⟨?_, ?_, ?_, ?_, ?_, ?_, ?_⟩ <;> with_reducible assumption) | go_keep)
      (first
        | (go_at_call 42; refine Calls.mono (HPO.out _ ((Below.refl _ w1).drew)) ?_; clear HPO; rintro e w2 ⟨v, he, htm, hb2⟩; subst he; have HF2 := Lib.hid (HFL.out v w2 htm hb2); clear HFL; clear c0 c1 c2 c3 c4 c5 c6; obtain ⟨c0, c1, c2, c3, c4, c5, c6⟩ := (HR1.out.up hb2).r7; simp only [Nat.zero_add] at c0 c1 c2 c3 c4 c5 c6; clear hb2)
        | (go_at_call 46; refine Calls.mono HF2.out ?_; rintro e w3 ⟨m, b, he, ⟨hfw, hm1, hm2⟩, hb3⟩; subst he; have HFW := Lib.hid hfw; have HB3 := Lib.hid hb3; clear hfw; clear c0 c1 c2 c3 c4 c5 c6; obtain ⟨c0, c1, c2, c3, c4, c5, c6⟩ := (HR1.out.up hb3).r7; simp only [Nat.zero_add] at c0 c1 c2 c3 c4 c5 c6; clear hb3))
    have hr1 := HR1.out.up HB3.out
    have hr2 := HR2.out.up HB3.out
    have hb := HB.out.trans (HB3.out.mono hz)
    have hz3 := hb.size
    have fb0 := hr1.frozen 0
    clear HR1 HR2 HB HB3 HF2
    have p1 := mul_bd (a := m) (b := xd) (A := 3000000) (B := 1000) ⟨hm1, hm2⟩ ⟨by omega, hd2⟩ (by omega)
    obtain ⟨P, hP⟩ : ∃ P, m * xd = P := ⟨_, rfl⟩
    rw [hP] at p1
    have e1 : IntKind.i64.wrap P = P := IntWalk.i64_in _ (by omega)
    obtain ⟨Q, hQ⟩ : ∃ Q, x0 - P = Q := ⟨_, rfl⟩
    have e2 : IntKind.i64.wrap Q = Q := IntWalk.i64_in _ (by omega)
    have hr1' := hr1.set 0 Q
    have hr2' := hr2.other (k := w.heap.size) (i := 0) (.int .i64 Q) (by omega)
    have hb' : Below w.heap.size w (w3.setCell ⟨w.heap.size, 0, none⟩ (.int .i64 Q)) := hb.setCell (Nat.le_refl _) _
    have HR1 := Lib.hid hr1'
    have HR2 := Lib.hid hr2'
    have HB := Lib.hid hb'
    have hfo : foR ⟨⟨x0, x1, x2, x3, x4, x5⟩, xd⟩ m = ⟨⟨Q, x1, x2, x3, x4, x5⟩, xd⟩ := by
      unfold foR V6.two
      simp only
      rw [← hQ, ← hP, Int.sub_eq_add_neg]
    have HFO := Lib.hid hfo
    have hft := fun W => fits_any Q x1 x2 x3 x4 x5 xd W
    have HFT := Lib.hid hft
    clear hr1 hr2 hb hr1' hr2' hb' hfo hft
    obtain ⟨n0, n1, n2, n3, n4, n5, n6⟩ := HR1.out.r7
    simp only [Nat.zero_add] at n0 n1 n2 n3 n4 n5 n6
    go_wp2_with fail
    refine (HFT.out _).mono ?_
    rintro e w4 ⟨he, hb4⟩
    subst he
    have hr1 := HR1.out.up hb4
    have hr2 := HR2.out.up hb4
    have hb := HB.out.trans (hb4.mono (by rw [size_setCell']; exact hz3))
    clear HR1 HR2 HB hb4 HFT n0 n1 n2 n3 n4 n5 n6 c0 c1 c2 c3 c4 c5 c6
    obtain ⟨n0, n1, n2, n3, n4, n5, n6⟩ := hr1.r7
    obtain ⟨c0, c1, c2, c3, c4, c5, c6⟩ := hr2.r7
    simp only [Nat.zero_add] at n0 n1 n2 n3 n4 n5 n6 c0 c1 c2 c3 c4 c5 c6
    have f0 := hr2.frozen 0
    have f1 := hr2.frozen 1
    have f2 := hr2.frozen 2
    have f3 := hr2.frozen 3
    have f4 := hr2.frozen 4
    have f5 := hr2.frozen 5
    have f6 := hr2.frozen 6
    have HR2 := Lib.hid hr2
    have HB := Lib.hid hb
    clear hr1 hr2 hb
    by_cases hf : Rt.fits ⟨⟨Q, x1, x2, x3, x4, x5⟩, xd⟩ = true
    · rw [hf]
      have HF := Lib.hid hf
      clear hf
      go_wp2
      change bodyPost _ _ _ _ _ (putR w4 (w.heap.size + 1) Q x1 x2 x3 x4 x5 xd)
      clear c0 c1 c2 c3 c4 c5 c6
      obtain ⟨c0, c1, c2, c3, c4, c5, c6⟩ := (putR_row HR2.out Q x1 x2 x3 x4 x5 xd).r7
      have hB := putR_below HB.out (show w.heap.size ≤ w.heap.size + 1 by omega) Q x1 x2 x3 x4 x5 xd
      generalize putR w4 (w.heap.size + 1) Q x1 x2 x3 x4 x5 xd = W' at *
      simp only [Nat.zero_add] at c0 c1 c2 c3 c4 c5 c6
      refine bodyPost_ret (v := .tuple #[.agg #[.int .i64 Q, .int .i64 x1, .int .i64 x2, .int .i64 x3, .int .i64 x4, .int .i64 x5, .int .i64 xd], .int .i64 m, .int .i64 0]) (by simp [results, Tryd.results11, c0, c1, c2, c3, c4, c5, c6, go_sem]) rfl ?_
      rw [HCT.out]
      exact .inl ⟨trivial, m, HFW.out, hm1, hm2, hB, .inl ⟨by rw [HFO.out]; exact HF.out, by rw [HFO.out]; rfl⟩⟩
    · have hf : Rt.fits ⟨⟨Q, x1, x2, x3, x4, x5⟩, xd⟩ = false := by simpa using hf
      rw [hf]
      have HF := Lib.hid hf
      clear hf
      go_wp2
      change bodyPost _ _ _ _ _ (putR w4 (w.heap.size + 1) 0 0 0 0 0 0 0)
      clear c0 c1 c2 c3 c4 c5 c6
      obtain ⟨c0, c1, c2, c3, c4, c5, c6⟩ := (putR_row HR2.out 0 0 0 0 0 0 0).r7
      have hB := putR_below HB.out (show w.heap.size ≤ w.heap.size + 1 by omega) 0 0 0 0 0 0 0
      generalize putR w4 (w.heap.size + 1) 0 0 0 0 0 0 0 = W' at *
      simp only [Nat.zero_add] at c0 c1 c2 c3 c4 c5 c6
      refine bodyPost_ret (v := .tuple #[.agg #[.int .i64 0, .int .i64 0, .int .i64 0, .int .i64 0, .int .i64 0, .int .i64 0, .int .i64 0], .int .i64 0, .int .i64 7]) (by simp [results, Tryd.results11, c0, c1, c2, c3, c4, c5, c6, go_sem]) rfl ?_
      rw [HCT.out]
      exact .inl ⟨trivial, m, HFW.out, hm1, hm2, hB, .inr ⟨by rw [HFO.out]; exact HF.out, rfl⟩⟩
  · have hEb : (E != 0) = true := by simp [hE0]
    have HE0 := Lib.hid hE0
    clear hE0
    obtain ⟨c0, c1, c2, c3, c4, c5, c6⟩ := HR2.out.r7
    simp only [Nat.zero_add] at c0 c1 c2 c3 c4 c5 c6
    have f0 := HR2.out.frozen 0
    have f1 := HR2.out.frozen 1
    have f2 := HR2.out.frozen 2
    have f3 := HR2.out.frozen 3
    have f4 := HR2.out.frozen 4
    have f5 := HR2.out.frozen 5
    have f6 := HR2.out.frozen 6
    go_wp2
    change bodyPost _ _ _ _ _ (putR w1 (w.heap.size + 1) 0 0 0 0 0 0 0)
    clear c0 c1 c2 c3 c4 c5 c6
    obtain ⟨c0, c1, c2, c3, c4, c5, c6⟩ := (putR_row HR2.out 0 0 0 0 0 0 0).r7
    have hB := putR_below HB.out (show w.heap.size ≤ w.heap.size + 1 by omega) 0 0 0 0 0 0 0
    generalize putR w1 (w.heap.size + 1) 0 0 0 0 0 0 0 = W' at *
    simp only [Nat.zero_add] at c0 c1 c2 c3 c4 c5 c6
    refine bodyPost_ret (v := .tuple #[.agg #[.int .i64 0, .int .i64 0, .int .i64 0, .int .i64 0, .int .i64 0, .int .i64 0, .int .i64 0], .int .i64 0, .int .i64 E]) (by simp [results, Tryd.results11, c0, c1, c2, c3, c4, c5, c6, go_sem]) rfl ?_
    rw [HCT.out]
    exact .inr ⟨HE0.out, rfl, hB⟩
end Go.Proofs.YtmbcejldifobnaaDoor

namespace Go.Proofs.YtmbcejldifobnaaDoor
open Go.RowKit
theorem st_le {p n : Nat} (hp : 2 ≤ p) (hn : n ≠ 0) : (st p n).2 + (st p n).1 ≤ n := by
  induction n using Nat.strongRecOn with
  | _ n ih =>
    by_cases h : n % p = 0
    · have hlt : n / p < n := Nat.div_lt_self (by omega) (by omega)
      have hd : n / p ≠ 0 := by
        intro h0
        have := Nat.div_add_mod n p
        rw [h0, h] at this; simp at this; omega
      have := ih (n / p) hlt hd
      rw [st_hit hp hn h]
      show (st p (n / p)).2 + 1 + (st p (n / p)).1 ≤ n
      omega
    · rw [st_miss h]; show 0 + n ≤ n; omega
def ToRel (n p : Nat) (nv tv : Value) : Prop :=
  ∃ m t : Nat, nv = .int .i64 (m : Int) ∧ tv = .int .i64 (t : Int) ∧ 1 ≤ m ∧ t + m ≤ n ∧ st p n = ((st p m).1, (st p m).2 + t)
set_option maxRecDepth 100000 in
set_option maxHeartbeats 400000 in
theorem takeOut_any (n p : Nat) (w : World) (hn : 1 ≤ n) (hn2 : n ≤ 1000000000000) (hp : 2 ≤ p) (hp2 : p ≤ 13) :
    Calls Tryd.prog 154 #[.int .i64 (n : Int), .int .i64 (p : Int)] w fun e w' => e = .returned (.tuple #[.int .i64 (((st p n).1 : Nat) : Int), .int .i64 (((st p n).2 : Nat) : Int)]) ∧ w = w' := by
  go_enter Tryd.func154, Tryd.ntmps154
  go_wp2
  go_loop [0, 5] (fun nv tv => ToRel n p nv tv) (fun nv _ => (intOf nv).toNat)
  case atStart => exact ⟨n, 0, rfl, rfl, hn, by omega, rfl⟩
  case round =>
    obtain ⟨m, t, rfl, rfl, hm1, hm2, hst⟩ := hrel
    have HST := Lib.hid hst
    clear hst
    have hp0 : ¬ p = 0 := by omega
    have hpI : ¬ (p : Int) = 0 := by omega
    have hpB : ((p : Int) == 0) = false := beq_false_of_ne hpI
    by_cases h : m % p = 0
    · have hr : (m : Int) % (p : Int) = 0 := by rw [← Int.natCast_emod, h]; rfl
      obtain ⟨q, hq⟩ : ∃ q, q = m / p := ⟨_, rfl⟩
      have hqI : (m : Int) / (p : Int) = (q : Int) := by rw [hq]; exact (Int.natCast_ediv m p).symm
      have hlt : q < m := by rw [hq]; exact Nat.div_lt_self (by omega) (by omega)
      have hq0 : q ≠ 0 := by
        intro h0
        have := Nat.div_add_mod m p
        rw [← hq, h0, h] at this; simp at this; omega
      have hs2 : st p m = ((st p q).1, (st p q).2 + 1) := by rw [hq]; exact st_hit hp (by omega) h
      have HS2 := Lib.hid hs2
      clear hs2 hq h
      go_wp2
      refine ⟨⟨q, t + 1, rfl, by go_num, by omega, by omega, ?_⟩, by simp [intOf]; omega⟩
      rw [HST.out, HS2.out]
      show ((st p q).1, (st p q).2 + 1 + t) = ((st p q).1, (st p q).2 + (t + 1))
      rw [Nat.add_assoc, Nat.add_comm 1 t]
    · obtain ⟨r, hr⟩ : ∃ r : Nat, r = m % p := ⟨_, rfl⟩
      have hrI : (m : Int) % (p : Int) = (r : Int) := by rw [hr]; exact (Int.natCast_emod m p).symm
      have hr0 : ¬ (r : Int) = 0 := by rw [hr]; omega
      have hs2 : st p m = (m, 0) := st_miss h
      have HS2 := Lib.hid hs2
      clear hs2 hr h
      go_wp2
      go_ret2
      refine ⟨?_, rfl⟩
      rw [HST.out, HS2.out]
      simp
end Go.Proofs.YtmbcejldifobnaaDoor
