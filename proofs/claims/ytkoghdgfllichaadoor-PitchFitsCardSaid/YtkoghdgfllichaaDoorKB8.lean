import Derived.Test.YtkoghdgfllichaaDoorKBC
namespace Go.Proofs.YtkoghdgfllichaaDoor
open Go.RowKit

theorem RowI.of_alloc (w : World) (t : TypeId) (L : List Int) : RowI (w.alloc (.cells (L.map (Value.int .i64)).toArray t)) w.heap.size t L := heap_alloc_new w _
theorem RowI.alloc {w : World} {g : Nat} {t : TypeId} {L : List Int} (h : RowI w g t L) (o : Obj) : RowI (w.alloc o) g t L := h.up (belA w o)
theorem exR_two (x y : Rt) : exR [x, y] = if x.err = 0 then y.err else x.err := by
  unfold exR exR exR
  by_cases h1 : x.err = 0
  · rw [if_pos h1, if_pos h1]
    by_cases h2 : y.err = 0
    · rw [if_pos h2, h2]
    · rw [if_neg h2]
  · rw [if_neg h1, if_neg h1]
theorem cell_two {w : World} {g : Nat} {x y : Rt} (h : w.heap[g]? = some (.cells (cellsR x ++ cellsR y).toArray 24 (0, 0))) : ∀ i r, [x, y][i]? = some r → CellR w g (i * 7) r := by
  intro i r hi
  have c := fun j => Go.Joins.cell_of_block h j
  match i, hi with
  | 0, hi => cases hi; exact ⟨c 0, c 1, c 2, c 3, c 4, c 5, c 6⟩
  | 1, hi => cases hi; exact ⟨c 7, c 8, c 9, c 10, c 11, c 12, c 13⟩
theorem cell_one1 {w : World} {g : Nat} {x : Rt} (h : w.heap[g]? = some (.cells (cellsR x).toArray 24 (0, 0))) : ∀ i r, [x][i]? = some r → CellR w g (i * 7) r := by
  intro i r hi
  have c := fun j => Go.Joins.cell_of_block h j
  match i, hi with
  | 0, hi => cases hi; exact ⟨c 0, c 1, c 2, c 3, c 4, c 5, c 6⟩
theorem exR_one (x : Rt) : exR [x] = x.err := by
  unfold exR exR
  by_cases h1 : x.err = 0
  · rw [if_pos h1, h1]
  · rw [if_neg h1]
theorem tpZ_bd {x y xd yd s : Int} (hx : -100000 ≤ x ∧ x ≤ 100000) (hy : -100000 ≤ y ∧ y ≤ 100000) (hxd : 1 ≤ xd ∧ xd ≤ 1000) (hyd : 1 ≤ yd ∧ yd ≤ 1000) (hs : -1 ≤ s ∧ s ≤ 1) : -1000000000 ≤ tpZ x y xd yd s ∧ tpZ x y xd yd s ≤ 1000000000 := by
  have p1 := mul_bd (A := 100000) (B := 1000) hx (show -1000 ≤ yd ∧ yd ≤ 1000 by omega) (by omega)
  have p2 := mul_bd (A := 1) (B := 100000) hs hy (by omega)
  have p3 := mul_bd (a := s * y) (A := 100000) (B := 1000) (by omega) (show -1000 ≤ xd ∧ xd ≤ 1000 by omega) (by omega)
  unfold tpZ
  omega
theorem Rt.err_cases (r : Rt) : r.err = 0 ∨ r.err = 2 ∨ r.err = 6 := by
  unfold Rt.err
  split
  · split
    · exact .inl rfl
    · exact .inr (.inr rfl)
  · exact .inr (.inl rfl)
set_option maxRecDepth 100000 in
set_option maxHeartbeats 1000000 in
theorem Mul_any (x0 x1 x2 x3 x4 x5 xd y0 y1 y2 y3 y4 y5 yd : Int) (w : World) :
    Calls Tryd.prog 129 #[.agg #[.int .i64 x0, .int .i64 x1, .int .i64 x2, .int .i64 x3, .int .i64 x4, .int .i64 x5, .int .i64 xd], .agg #[.int .i64 y0, .int .i64 y1, .int .i64 y2, .int .i64 y3, .int .i64 y4, .int .i64 y5, .int .i64 yd]] w (RtPost w (bothW ⟨⟨x0, x1, x2, x3, x4, x5⟩, xd⟩ ⟨⟨y0, y1, y2, y3, y4, y5⟩, yd⟩ (1))) := by
  have hT : timesW ⟨⟨x0, x1, x2, x3, x4, x5⟩, xd⟩ ⟨⟨y0, y1, y2, y3, y4, y5⟩, yd⟩ (1) = (⟨tpZ x0 y0 xd yd (1), tpZ x1 y1 xd yd (1), tpZ x2 y2 xd yd (1), tpZ x3 y3 xd yd (1), tpZ x4 y4 xd yd (1), tpZ x5 y5 xd yd (1)⟩, xd * yd) := by
    unfold timesW
    refine Prod.ext (V6.eq ?_ ?_ ?_ ?_ ?_ ?_) rfl <;> simp only [V6.scl, V6.add, tpZ] <;> grind
  have hW : bothW ⟨⟨x0, x1, x2, x3, x4, x5⟩, xd⟩ ⟨⟨y0, y1, y2, y3, y4, y5⟩, yd⟩ (1) = if Rt.err ⟨⟨x0, x1, x2, x3, x4, x5⟩, xd⟩ = 0 then (if Rt.err ⟨⟨y0, y1, y2, y3, y4, y5⟩, yd⟩ = 0 then lowW ⟨tpZ x0 y0 xd yd (1), tpZ x1 y1 xd yd (1), tpZ x2 y2 xd yd (1), tpZ x3 y3 xd yd (1), tpZ x4 y4 xd yd (1), tpZ x5 y5 xd yd (1)⟩ (xd * yd) else (Rt.zero, Rt.err ⟨⟨y0, y1, y2, y3, y4, y5⟩, yd⟩)) else (Rt.zero, Rt.err ⟨⟨x0, x1, x2, x3, x4, x5⟩, xd⟩) := by
    unfold bothW
    rw [hT]
  have hE := exR_two ⟨⟨x0, x1, x2, x3, x4, x5⟩, xd⟩ ⟨⟨y0, y1, y2, y3, y4, y5⟩, yd⟩
  have hokx := fun h => (Rt.ok_iff (r := ⟨⟨x0, x1, x2, x3, x4, x5⟩, xd⟩)).1 h
  have hoky := fun h => (Rt.ok_iff (r := ⟨⟨y0, y1, y2, y3, y4, y5⟩, yd⟩)).1 h
  have hcx := Rt.err_cases ⟨⟨x0, x1, x2, x3, x4, x5⟩, xd⟩
  have hcy := Rt.err_cases ⟨⟨y0, y1, y2, y3, y4, y5⟩, yd⟩
  have hex := fun (W : World) (g : Nat) (h : W.heap[g]? = some (.cells (cellsR ⟨⟨x0, x1, x2, x3, x4, x5⟩, xd⟩ ++ cellsR ⟨⟨y0, y1, y2, y3, y4, y5⟩, yd⟩).toArray 24 (0, 0))) => examineR_any g [⟨⟨x0, x1, x2, x3, x4, x5⟩, xd⟩, ⟨⟨y0, y1, y2, y3, y4, y5⟩, yd⟩] W (Array.getElem?_eq_some_iff.1 h).1 (cell_two h) (by simp)
  rw [hE] at hex
  have HEX := Lib.hid hex
  have HOX := Lib.hid hokx
  have HOY := Lib.hid hoky
  clear hex hT hE hokx hoky
  generalize bothW ⟨⟨x0, x1, x2, x3, x4, x5⟩, xd⟩ ⟨⟨y0, y1, y2, y3, y4, y5⟩, yd⟩ (1) = RW at *
  have HW := Lib.hid hW
  clear hW
  generalize hex : Rt.err ⟨⟨x0, x1, x2, x3, x4, x5⟩, xd⟩ = ex at *
  generalize hey : Rt.err ⟨⟨y0, y1, y2, y3, y4, y5⟩, yd⟩ = ey at *
  have HXE := Lib.hid hex
  have HYE := Lib.hid hey
  clear hex hey
  generalize hEE : (if ex = 0 then ey else ex) = E at HEX
  have HEE := Lib.hid hEE
  clear hEE
  go_enter Tryd.func129, Tryd.ntmps129
  have hr3 : RowI (((w.alloc (.cells #[.int .i64 x0, .int .i64 x1, .int .i64 x2, .int .i64 x3, .int .i64 x4, .int .i64 x5, .int .i64 xd] 24)).alloc (.cells #[.int .i64 y0, .int .i64 y1, .int .i64 y2, .int .i64 y3, .int .i64 y4, .int .i64 y5, .int .i64 yd] 24)).alloc (.cells #[.int .i64 0, .int .i64 0, .int .i64 0, .int .i64 0, .int .i64 0, .int .i64 0, .int .i64 0] 24)) (w.heap.size + 1 + 1) 24 [0, 0, 0, 0, 0, 0, 0] := by
    have h := RowI.of_alloc ((w.alloc (.cells #[.int .i64 x0, .int .i64 x1, .int .i64 x2, .int .i64 x3, .int .i64 x4, .int .i64 x5, .int .i64 xd] 24)).alloc (.cells #[.int .i64 y0, .int .i64 y1, .int .i64 y2, .int .i64 y3, .int .i64 y4, .int .i64 y5, .int .i64 yd] 24)) 24 [0, 0, 0, 0, 0, 0, 0]
    rw [World.size_alloc, World.size_alloc] at h
    exact h
  have hr1 : RowI (((w.alloc (.cells #[.int .i64 x0, .int .i64 x1, .int .i64 x2, .int .i64 x3, .int .i64 x4, .int .i64 x5, .int .i64 xd] 24)).alloc (.cells #[.int .i64 y0, .int .i64 y1, .int .i64 y2, .int .i64 y3, .int .i64 y4, .int .i64 y5, .int .i64 yd] 24)).alloc (.cells #[.int .i64 0, .int .i64 0, .int .i64 0, .int .i64 0, .int .i64 0, .int .i64 0, .int .i64 0] 24)) w.heap.size 24 [x0, x1, x2, x3, x4, x5, xd] := ((RowI.of_alloc w 24 [x0, x1, x2, x3, x4, x5, xd]).alloc _).alloc _
  have hr2 : RowI (((w.alloc (.cells #[.int .i64 x0, .int .i64 x1, .int .i64 x2, .int .i64 x3, .int .i64 x4, .int .i64 x5, .int .i64 xd] 24)).alloc (.cells #[.int .i64 y0, .int .i64 y1, .int .i64 y2, .int .i64 y3, .int .i64 y4, .int .i64 y5, .int .i64 yd] 24)).alloc (.cells #[.int .i64 0, .int .i64 0, .int .i64 0, .int .i64 0, .int .i64 0, .int .i64 0, .int .i64 0] 24)) (w.heap.size + 1) 24 [y0, y1, y2, y3, y4, y5, yd] := by
    have h := (RowI.of_alloc (w.alloc (.cells #[.int .i64 x0, .int .i64 x1, .int .i64 x2, .int .i64 x3, .int .i64 x4, .int .i64 x5, .int .i64 xd] 24)) 24 [y0, y1, y2, y3, y4, y5, yd]).alloc (.cells #[.int .i64 0, .int .i64 0, .int .i64 0, .int .i64 0, .int .i64 0, .int .i64 0, .int .i64 0] 24)
    rw [World.size_alloc] at h
    exact h
  have hb0 := ((belA w (.cells #[.int .i64 x0, .int .i64 x1, .int .i64 x2, .int .i64 x3, .int .i64 x4, .int .i64 x5, .int .i64 xd] 24)).alloc (by simp) (.cells #[.int .i64 y0, .int .i64 y1, .int .i64 y2, .int .i64 y3, .int .i64 y4, .int .i64 y5, .int .i64 yd] 24)).alloc (by simp; omega) (.cells #[.int .i64 0, .int .i64 0, .int .i64 0, .int .i64 0, .int .i64 0, .int .i64 0, .int .i64 0] 24)
  have HR1 := Lib.hid hr1
  have HR2 := Lib.hid hr2
  have HR3 := Lib.hid hr3
  have HB0 := Lib.hid hb0
  clear hr1 hr2 hr3 hb0
  go_wp2_with fail
  refine (HEX.out _ _ (by have h := heap_alloc_new (((w.alloc (.cells #[.int .i64 x0, .int .i64 x1, .int .i64 x2, .int .i64 x3, .int .i64 x4, .int .i64 x5, .int .i64 xd] 24)).alloc (.cells #[.int .i64 y0, .int .i64 y1, .int .i64 y2, .int .i64 y3, .int .i64 y4, .int .i64 y5, .int .i64 yd] 24)).alloc (.cells #[.int .i64 0, .int .i64 0, .int .i64 0, .int .i64 0, .int .i64 0, .int .i64 0, .int .i64 0] 24)) (.cells (cellsR ⟨⟨x0, x1, x2, x3, x4, x5⟩, xd⟩ ++ cellsR ⟨⟨y0, y1, y2, y3, y4, y5⟩, yd⟩).toArray 24); rw [World.size_alloc, World.size_alloc, World.size_alloc] at h; exact h)).mono ?_
  rintro e w1 ⟨he, hb1⟩
  subst he
  have hb1' := (belA (((w.alloc (.cells #[.int .i64 x0, .int .i64 x1, .int .i64 x2, .int .i64 x3, .int .i64 x4, .int .i64 x5, .int .i64 xd] 24)).alloc (.cells #[.int .i64 y0, .int .i64 y1, .int .i64 y2, .int .i64 y3, .int .i64 y4, .int .i64 y5, .int .i64 yd] 24)).alloc (.cells #[.int .i64 0, .int .i64 0, .int .i64 0, .int .i64 0, .int .i64 0, .int .i64 0, .int .i64 0] 24)) _).trans (hb1.mono (by simp))
  have hr1 := HR1.out.up hb1'
  have hr2 := HR2.out.up hb1'
  have hr3 := HR3.out.up hb1'
  have hb := HB0.out.trans (hb1'.mono (by simp; omega))
  clear HR1 HR2 HR3 HB0 hb1 hb1'
  have HR1 := Lib.hid hr1
  have HR2 := Lib.hid hr2
  have HR3 := Lib.hid hr3
  have HB := Lib.hid hb
  have hz := hb.size
  clear hr1 hr2 hr3 hb
  by_cases hE0 : E = 0
  · subst hE0
    have hx0 : ex = 0 := by
      have h := HEE.out
      by_cases h0 : ex = 0
      · exact h0
      · rw [if_neg h0] at h; exact h
    have hy0 : ey = 0 := by
      have h := HEE.out
      rw [if_pos hx0] at h; exact h
    have okx := HOX.out hx0
    have oky := HOY.out hy0
    obtain ⟨bx0, bx1, bx2, bx3, bx4, bx5, bxd⟩ := okx.nums
    obtain ⟨by0, by1, by2, by3, by4, by5, byd⟩ := oky.nums
    simp only at bx0 bx1 bx2 bx3 bx4 bx5 bxd by0 by1 by2 by3 by4 by5 byd
    have hWE : RW = lowW ⟨tpZ x0 y0 xd yd (1), tpZ x1 y1 xd yd (1), tpZ x2 y2 xd yd (1), tpZ x3 y3 xd yd (1), tpZ x4 y4 xd yd (1), tpZ x5 y5 xd yd (1)⟩ (xd * yd) := by
      have h := HW.out
      rw [if_pos hx0, if_pos hy0] at h
      exact h
    have hxl : ∀ n ∈ [x0, x1, x2, x3, x4, x5], -100000 ≤ n ∧ n ≤ 100000 := by
      simp only [List.mem_cons, List.not_mem_nil, or_false, forall_eq_or_imp, forall_eq]
      exact ⟨bx0, bx1, bx2, bx3, bx4, bx5⟩
    have hyl : ∀ n ∈ [y0, y1, y2, y3, y4, y5], -100000 ≤ n ∧ n ≤ 100000 := by
      simp only [List.mem_cons, List.not_mem_nil, or_false, forall_eq_or_imp, forall_eq]
      exact ⟨by0, by1, by2, by3, by4, by5⟩
    have htp := fun W => timesPower_any x0 x1 x2 x3 x4 x5 xd y0 y1 y2 y3 y4 y5 yd (1) W hxl hyl bxd byd (by omega)
    have hzl : ∀ n ∈ [tpZ x0 y0 xd yd (1), tpZ x1 y1 xd yd (1), tpZ x2 y2 xd yd (1), tpZ x3 y3 xd yd (1), tpZ x4 y4 xd yd (1), tpZ x5 y5 xd yd (1)], -1000000000 ≤ n ∧ n ≤ 1000000000 := by
      simp only [List.mem_cons, List.not_mem_nil, or_false, forall_eq_or_imp, forall_eq]
      exact ⟨tpZ_bd bx0 by0 bxd byd (by omega), tpZ_bd bx1 by1 bxd byd (by omega), tpZ_bd bx2 by2 bxd byd (by omega), tpZ_bd bx3 by3 bxd byd (by omega), tpZ_bd bx4 by4 bxd byd (by omega), tpZ_bd bx5 by5 bxd byd (by omega)⟩
    have hdd := mul_bd (A := 1000) (B := 1000) (show -1000 ≤ xd ∧ xd ≤ 1000 by omega) (show -1000 ≤ yd ∧ yd ≤ 1000 by omega) (by omega)
    have hd0 : xd * yd ≠ 0 := Int.mul_ne_zero (by omega) (by omega)
    have hlo := fun W => lowest_any (tpZ x0 y0 xd yd (1)) (tpZ x1 y1 xd yd (1)) (tpZ x2 y2 xd yd (1)) (tpZ x3 y3 xd yd (1)) (tpZ x4 y4 xd yd (1)) (tpZ x5 y5 xd yd (1)) (xd * yd) W hd0 (by omega) hzl
    rw [← hWE] at hlo
    obtain ⟨c0, c1, c2, c3, c4, c5, c6⟩ := HR1.out.r7
    obtain ⟨d0, d1, d2, d3, d4, d5, d6⟩ := HR2.out.r7
    simp only [Nat.zero_add] at c0 c1 c2 c3 c4 c5 c6 d0 d1 d2 d3 d4 d5 d6
    have HTP := Lib.hid htp
    have HLO := Lib.hid hlo
    clear htp hlo hWE hx0 hy0 okx oky bx0 bx1 bx2 bx3 bx4 bx5 bxd by0 by1 by2 by3 by4 by5 byd hxl hyl hzl hdd hd0
    generalize tpZ x0 y0 xd yd (1) = z0 at *
    generalize tpZ x1 y1 xd yd (1) = z1 at *
    generalize tpZ x2 y2 xd yd (1) = z2 at *
    generalize tpZ x3 y3 xd yd (1) = z3 at *
    generalize tpZ x4 y4 xd yd (1) = z4 at *
    generalize tpZ x5 y5 xd yd (1) = z5 at *
    generalize xd * yd = zd at *
    go_wp2_with fail
    refine (HTP.out _).mono ?_
    rintro e w2 ⟨he, hb2⟩
    subst he
    have hr3 := HR3.out.up hb2
    have hb := HB.out.trans (hb2.mono hz)
    have hz2 := hb.size
    clear HR1 HR2 HR3 HB HTP c0 c1 c2 c3 c4 c5 c6 d0 d1 d2 d3 d4 d5 d6 hb2
    have HR3 := Lib.hid hr3
    have HB := Lib.hid hb
    clear hr3 hb
    go_wp2_with fail
    refine (HLO.out _).mono ?_
    rintro e w3 ⟨he, hb3⟩
    obtain ⟨⟨⟨r0, r1, r2, r3, r4, r5⟩, rd⟩, re⟩ := RW
    unfold rtv at he
    simp only at he
    subst he
    have hr3 := HR3.out.up hb3
    have hb := HB.out.trans (hb3.mono hz2)
    clear HR3 HB HLO HW hb3
    obtain ⟨c0, c1, c2, c3, c4, c5, c6⟩ := hr3.r7
    simp only [Nat.zero_add] at c0 c1 c2 c3 c4 c5 c6
    have f0 := hr3.frozen 0
    have f1 := hr3.frozen 1
    have f2 := hr3.frozen 2
    have f3 := hr3.frozen 3
    have f4 := hr3.frozen 4
    have f5 := hr3.frozen 5
    have f6 := hr3.frozen 6
    have HR3 := Lib.hid hr3
    have HB := Lib.hid hb
    clear hr3 hb
    go_wp2
    change bodyPost _ _ _ _ _ (putR w3 (w.heap.size + 1 + 1) r0 r1 r2 r3 r4 r5 rd)
    clear c0 c1 c2 c3 c4 c5 c6
    obtain ⟨c0, c1, c2, c3, c4, c5, c6⟩ := (putR_row HR3.out r0 r1 r2 r3 r4 r5 rd).r7
    have hB := putR_below HB.out (show w.heap.size ≤ w.heap.size + 1 + 1 by omega) r0 r1 r2 r3 r4 r5 rd
    generalize putR w3 (w.heap.size + 1 + 1) r0 r1 r2 r3 r4 r5 rd = W' at *
    simp only [Nat.zero_add] at c0 c1 c2 c3 c4 c5 c6
    exact bodyPost_ret (v := .tuple #[.agg #[.int .i64 r0, .int .i64 r1, .int .i64 r2, .int .i64 r3, .int .i64 r4, .int .i64 r5, .int .i64 rd], .int .i64 re]) (by simp [results, Tryd.results129, c0, c1, c2, c3, c4, c5, c6, go_sem]) rfl ⟨rfl, hB⟩
  · have hEb : (E != 0) = true := by simp [hE0]
    have hWE : RW = (Rt.zero, E) := by
      have h := HW.out
      have h2 := HEE.out
      by_cases h0 : ex = 0
      · rw [if_pos h0] at h h2
        subst h2
        rw [if_neg hE0] at h
        exact h
      · rw [if_neg h0] at h h2
        subst h2
        exact h
    have HWE := Lib.hid hWE
    obtain ⟨c0, c1, c2, c3, c4, c5, c6⟩ := HR3.out.r7
    simp only [Nat.zero_add] at c0 c1 c2 c3 c4 c5 c6
    have f0 := HR3.out.frozen 0
    have f1 := HR3.out.frozen 1
    have f2 := HR3.out.frozen 2
    have f3 := HR3.out.frozen 3
    have f4 := HR3.out.frozen 4
    have f5 := HR3.out.frozen 5
    have f6 := HR3.out.frozen 6
    clear hWE HW hE0 hcx hcy
    go_wp2
    change bodyPost _ _ _ _ _ (putR w1 (w.heap.size + 1 + 1) 0 0 0 0 0 0 0)
    clear c0 c1 c2 c3 c4 c5 c6
    obtain ⟨c0, c1, c2, c3, c4, c5, c6⟩ := (putR_row HR3.out 0 0 0 0 0 0 0).r7
    have hB := putR_below HB.out (show w.heap.size ≤ w.heap.size + 1 + 1 by omega) 0 0 0 0 0 0 0
    generalize putR w1 (w.heap.size + 1 + 1) 0 0 0 0 0 0 0 = W' at *
    simp only [Nat.zero_add] at c0 c1 c2 c3 c4 c5 c6
    refine bodyPost_ret (v := .tuple #[.agg #[.int .i64 0, .int .i64 0, .int .i64 0, .int .i64 0, .int .i64 0, .int .i64 0, .int .i64 0], .int .i64 E]) (by simp [results, Tryd.results129, c0, c1, c2, c3, c4, c5, c6, go_sem]) rfl ⟨?_, hB⟩
    rw [HWE.out]
    rfl
set_option maxRecDepth 100000 in
set_option maxHeartbeats 1000000 in
theorem Div_any (x0 x1 x2 x3 x4 x5 xd y0 y1 y2 y3 y4 y5 yd : Int) (w : World) :
    Calls Tryd.prog 127 #[.agg #[.int .i64 x0, .int .i64 x1, .int .i64 x2, .int .i64 x3, .int .i64 x4, .int .i64 x5, .int .i64 xd], .agg #[.int .i64 y0, .int .i64 y1, .int .i64 y2, .int .i64 y3, .int .i64 y4, .int .i64 y5, .int .i64 yd]] w (RtPost w (bothW ⟨⟨x0, x1, x2, x3, x4, x5⟩, xd⟩ ⟨⟨y0, y1, y2, y3, y4, y5⟩, yd⟩ (-1))) := by
  have hT : timesW ⟨⟨x0, x1, x2, x3, x4, x5⟩, xd⟩ ⟨⟨y0, y1, y2, y3, y4, y5⟩, yd⟩ (-1) = (⟨tpZ x0 y0 xd yd (-1), tpZ x1 y1 xd yd (-1), tpZ x2 y2 xd yd (-1), tpZ x3 y3 xd yd (-1), tpZ x4 y4 xd yd (-1), tpZ x5 y5 xd yd (-1)⟩, xd * yd) := by
    unfold timesW
    refine Prod.ext (V6.eq ?_ ?_ ?_ ?_ ?_ ?_) rfl <;> simp only [V6.scl, V6.add, tpZ] <;> grind
  have hW : bothW ⟨⟨x0, x1, x2, x3, x4, x5⟩, xd⟩ ⟨⟨y0, y1, y2, y3, y4, y5⟩, yd⟩ (-1) = if Rt.err ⟨⟨x0, x1, x2, x3, x4, x5⟩, xd⟩ = 0 then (if Rt.err ⟨⟨y0, y1, y2, y3, y4, y5⟩, yd⟩ = 0 then lowW ⟨tpZ x0 y0 xd yd (-1), tpZ x1 y1 xd yd (-1), tpZ x2 y2 xd yd (-1), tpZ x3 y3 xd yd (-1), tpZ x4 y4 xd yd (-1), tpZ x5 y5 xd yd (-1)⟩ (xd * yd) else (Rt.zero, Rt.err ⟨⟨y0, y1, y2, y3, y4, y5⟩, yd⟩)) else (Rt.zero, Rt.err ⟨⟨x0, x1, x2, x3, x4, x5⟩, xd⟩) := by
    unfold bothW
    rw [hT]
  have hE := exR_two ⟨⟨x0, x1, x2, x3, x4, x5⟩, xd⟩ ⟨⟨y0, y1, y2, y3, y4, y5⟩, yd⟩
  have hokx := fun h => (Rt.ok_iff (r := ⟨⟨x0, x1, x2, x3, x4, x5⟩, xd⟩)).1 h
  have hoky := fun h => (Rt.ok_iff (r := ⟨⟨y0, y1, y2, y3, y4, y5⟩, yd⟩)).1 h
  have hcx := Rt.err_cases ⟨⟨x0, x1, x2, x3, x4, x5⟩, xd⟩
  have hcy := Rt.err_cases ⟨⟨y0, y1, y2, y3, y4, y5⟩, yd⟩
  have hex := fun (W : World) (g : Nat) (h : W.heap[g]? = some (.cells (cellsR ⟨⟨x0, x1, x2, x3, x4, x5⟩, xd⟩ ++ cellsR ⟨⟨y0, y1, y2, y3, y4, y5⟩, yd⟩).toArray 24 (0, 0))) => examineR_any g [⟨⟨x0, x1, x2, x3, x4, x5⟩, xd⟩, ⟨⟨y0, y1, y2, y3, y4, y5⟩, yd⟩] W (Array.getElem?_eq_some_iff.1 h).1 (cell_two h) (by simp)
  rw [hE] at hex
  have HEX := Lib.hid hex
  have HOX := Lib.hid hokx
  have HOY := Lib.hid hoky
  clear hex hT hE hokx hoky
  generalize bothW ⟨⟨x0, x1, x2, x3, x4, x5⟩, xd⟩ ⟨⟨y0, y1, y2, y3, y4, y5⟩, yd⟩ (-1) = RW at *
  have HW := Lib.hid hW
  clear hW
  generalize hex : Rt.err ⟨⟨x0, x1, x2, x3, x4, x5⟩, xd⟩ = ex at *
  generalize hey : Rt.err ⟨⟨y0, y1, y2, y3, y4, y5⟩, yd⟩ = ey at *
  have HXE := Lib.hid hex
  have HYE := Lib.hid hey
  clear hex hey
  generalize hEE : (if ex = 0 then ey else ex) = E at HEX
  have HEE := Lib.hid hEE
  clear hEE
  go_enter Tryd.func127, Tryd.ntmps127
  have hr3 : RowI (((w.alloc (.cells #[.int .i64 x0, .int .i64 x1, .int .i64 x2, .int .i64 x3, .int .i64 x4, .int .i64 x5, .int .i64 xd] 24)).alloc (.cells #[.int .i64 y0, .int .i64 y1, .int .i64 y2, .int .i64 y3, .int .i64 y4, .int .i64 y5, .int .i64 yd] 24)).alloc (.cells #[.int .i64 0, .int .i64 0, .int .i64 0, .int .i64 0, .int .i64 0, .int .i64 0, .int .i64 0] 24)) (w.heap.size + 1 + 1) 24 [0, 0, 0, 0, 0, 0, 0] := by
    have h := RowI.of_alloc ((w.alloc (.cells #[.int .i64 x0, .int .i64 x1, .int .i64 x2, .int .i64 x3, .int .i64 x4, .int .i64 x5, .int .i64 xd] 24)).alloc (.cells #[.int .i64 y0, .int .i64 y1, .int .i64 y2, .int .i64 y3, .int .i64 y4, .int .i64 y5, .int .i64 yd] 24)) 24 [0, 0, 0, 0, 0, 0, 0]
    rw [World.size_alloc, World.size_alloc] at h
    exact h
  have hr1 : RowI (((w.alloc (.cells #[.int .i64 x0, .int .i64 x1, .int .i64 x2, .int .i64 x3, .int .i64 x4, .int .i64 x5, .int .i64 xd] 24)).alloc (.cells #[.int .i64 y0, .int .i64 y1, .int .i64 y2, .int .i64 y3, .int .i64 y4, .int .i64 y5, .int .i64 yd] 24)).alloc (.cells #[.int .i64 0, .int .i64 0, .int .i64 0, .int .i64 0, .int .i64 0, .int .i64 0, .int .i64 0] 24)) w.heap.size 24 [x0, x1, x2, x3, x4, x5, xd] := ((RowI.of_alloc w 24 [x0, x1, x2, x3, x4, x5, xd]).alloc _).alloc _
  have hr2 : RowI (((w.alloc (.cells #[.int .i64 x0, .int .i64 x1, .int .i64 x2, .int .i64 x3, .int .i64 x4, .int .i64 x5, .int .i64 xd] 24)).alloc (.cells #[.int .i64 y0, .int .i64 y1, .int .i64 y2, .int .i64 y3, .int .i64 y4, .int .i64 y5, .int .i64 yd] 24)).alloc (.cells #[.int .i64 0, .int .i64 0, .int .i64 0, .int .i64 0, .int .i64 0, .int .i64 0, .int .i64 0] 24)) (w.heap.size + 1) 24 [y0, y1, y2, y3, y4, y5, yd] := by
    have h := (RowI.of_alloc (w.alloc (.cells #[.int .i64 x0, .int .i64 x1, .int .i64 x2, .int .i64 x3, .int .i64 x4, .int .i64 x5, .int .i64 xd] 24)) 24 [y0, y1, y2, y3, y4, y5, yd]).alloc (.cells #[.int .i64 0, .int .i64 0, .int .i64 0, .int .i64 0, .int .i64 0, .int .i64 0, .int .i64 0] 24)
    rw [World.size_alloc] at h
    exact h
  have hb0 := ((belA w (.cells #[.int .i64 x0, .int .i64 x1, .int .i64 x2, .int .i64 x3, .int .i64 x4, .int .i64 x5, .int .i64 xd] 24)).alloc (by simp) (.cells #[.int .i64 y0, .int .i64 y1, .int .i64 y2, .int .i64 y3, .int .i64 y4, .int .i64 y5, .int .i64 yd] 24)).alloc (by simp; omega) (.cells #[.int .i64 0, .int .i64 0, .int .i64 0, .int .i64 0, .int .i64 0, .int .i64 0, .int .i64 0] 24)
  have HR1 := Lib.hid hr1
  have HR2 := Lib.hid hr2
  have HR3 := Lib.hid hr3
  have HB0 := Lib.hid hb0
  clear hr1 hr2 hr3 hb0
  go_wp2_with fail
  refine (HEX.out _ _ (by have h := heap_alloc_new (((w.alloc (.cells #[.int .i64 x0, .int .i64 x1, .int .i64 x2, .int .i64 x3, .int .i64 x4, .int .i64 x5, .int .i64 xd] 24)).alloc (.cells #[.int .i64 y0, .int .i64 y1, .int .i64 y2, .int .i64 y3, .int .i64 y4, .int .i64 y5, .int .i64 yd] 24)).alloc (.cells #[.int .i64 0, .int .i64 0, .int .i64 0, .int .i64 0, .int .i64 0, .int .i64 0, .int .i64 0] 24)) (.cells (cellsR ⟨⟨x0, x1, x2, x3, x4, x5⟩, xd⟩ ++ cellsR ⟨⟨y0, y1, y2, y3, y4, y5⟩, yd⟩).toArray 24); rw [World.size_alloc, World.size_alloc, World.size_alloc] at h; exact h)).mono ?_
  rintro e w1 ⟨he, hb1⟩
  subst he
  have hb1' := (belA (((w.alloc (.cells #[.int .i64 x0, .int .i64 x1, .int .i64 x2, .int .i64 x3, .int .i64 x4, .int .i64 x5, .int .i64 xd] 24)).alloc (.cells #[.int .i64 y0, .int .i64 y1, .int .i64 y2, .int .i64 y3, .int .i64 y4, .int .i64 y5, .int .i64 yd] 24)).alloc (.cells #[.int .i64 0, .int .i64 0, .int .i64 0, .int .i64 0, .int .i64 0, .int .i64 0, .int .i64 0] 24)) _).trans (hb1.mono (by simp))
  have hr1 := HR1.out.up hb1'
  have hr2 := HR2.out.up hb1'
  have hr3 := HR3.out.up hb1'
  have hb := HB0.out.trans (hb1'.mono (by simp; omega))
  clear HR1 HR2 HR3 HB0 hb1 hb1'
  have HR1 := Lib.hid hr1
  have HR2 := Lib.hid hr2
  have HR3 := Lib.hid hr3
  have HB := Lib.hid hb
  have hz := hb.size
  clear hr1 hr2 hr3 hb
  by_cases hE0 : E = 0
  · subst hE0
    have hx0 : ex = 0 := by
      have h := HEE.out
      by_cases h0 : ex = 0
      · exact h0
      · rw [if_neg h0] at h; exact h
    have hy0 : ey = 0 := by
      have h := HEE.out
      rw [if_pos hx0] at h; exact h
    have okx := HOX.out hx0
    have oky := HOY.out hy0
    obtain ⟨bx0, bx1, bx2, bx3, bx4, bx5, bxd⟩ := okx.nums
    obtain ⟨by0, by1, by2, by3, by4, by5, byd⟩ := oky.nums
    simp only at bx0 bx1 bx2 bx3 bx4 bx5 bxd by0 by1 by2 by3 by4 by5 byd
    have hWE : RW = lowW ⟨tpZ x0 y0 xd yd (-1), tpZ x1 y1 xd yd (-1), tpZ x2 y2 xd yd (-1), tpZ x3 y3 xd yd (-1), tpZ x4 y4 xd yd (-1), tpZ x5 y5 xd yd (-1)⟩ (xd * yd) := by
      have h := HW.out
      rw [if_pos hx0, if_pos hy0] at h
      exact h
    have hxl : ∀ n ∈ [x0, x1, x2, x3, x4, x5], -100000 ≤ n ∧ n ≤ 100000 := by
      simp only [List.mem_cons, List.not_mem_nil, or_false, forall_eq_or_imp, forall_eq]
      exact ⟨bx0, bx1, bx2, bx3, bx4, bx5⟩
    have hyl : ∀ n ∈ [y0, y1, y2, y3, y4, y5], -100000 ≤ n ∧ n ≤ 100000 := by
      simp only [List.mem_cons, List.not_mem_nil, or_false, forall_eq_or_imp, forall_eq]
      exact ⟨by0, by1, by2, by3, by4, by5⟩
    have htp := fun W => timesPower_any x0 x1 x2 x3 x4 x5 xd y0 y1 y2 y3 y4 y5 yd (-1) W hxl hyl bxd byd (by omega)
    have hzl : ∀ n ∈ [tpZ x0 y0 xd yd (-1), tpZ x1 y1 xd yd (-1), tpZ x2 y2 xd yd (-1), tpZ x3 y3 xd yd (-1), tpZ x4 y4 xd yd (-1), tpZ x5 y5 xd yd (-1)], -1000000000 ≤ n ∧ n ≤ 1000000000 := by
      simp only [List.mem_cons, List.not_mem_nil, or_false, forall_eq_or_imp, forall_eq]
      exact ⟨tpZ_bd bx0 by0 bxd byd (by omega), tpZ_bd bx1 by1 bxd byd (by omega), tpZ_bd bx2 by2 bxd byd (by omega), tpZ_bd bx3 by3 bxd byd (by omega), tpZ_bd bx4 by4 bxd byd (by omega), tpZ_bd bx5 by5 bxd byd (by omega)⟩
    have hdd := mul_bd (A := 1000) (B := 1000) (show -1000 ≤ xd ∧ xd ≤ 1000 by omega) (show -1000 ≤ yd ∧ yd ≤ 1000 by omega) (by omega)
    have hd0 : xd * yd ≠ 0 := Int.mul_ne_zero (by omega) (by omega)
    have hlo := fun W => lowest_any (tpZ x0 y0 xd yd (-1)) (tpZ x1 y1 xd yd (-1)) (tpZ x2 y2 xd yd (-1)) (tpZ x3 y3 xd yd (-1)) (tpZ x4 y4 xd yd (-1)) (tpZ x5 y5 xd yd (-1)) (xd * yd) W hd0 (by omega) hzl
    rw [← hWE] at hlo
    obtain ⟨c0, c1, c2, c3, c4, c5, c6⟩ := HR1.out.r7
    obtain ⟨d0, d1, d2, d3, d4, d5, d6⟩ := HR2.out.r7
    simp only [Nat.zero_add] at c0 c1 c2 c3 c4 c5 c6 d0 d1 d2 d3 d4 d5 d6
    have HTP := Lib.hid htp
    have HLO := Lib.hid hlo
    clear htp hlo hWE hx0 hy0 okx oky bx0 bx1 bx2 bx3 bx4 bx5 bxd by0 by1 by2 by3 by4 by5 byd hxl hyl hzl hdd hd0
    generalize tpZ x0 y0 xd yd (-1) = z0 at *
    generalize tpZ x1 y1 xd yd (-1) = z1 at *
    generalize tpZ x2 y2 xd yd (-1) = z2 at *
    generalize tpZ x3 y3 xd yd (-1) = z3 at *
    generalize tpZ x4 y4 xd yd (-1) = z4 at *
    generalize tpZ x5 y5 xd yd (-1) = z5 at *
    generalize xd * yd = zd at *
    go_wp2_with fail
    refine (HTP.out _).mono ?_
    rintro e w2 ⟨he, hb2⟩
    subst he
    have hr3 := HR3.out.up hb2
    have hb := HB.out.trans (hb2.mono hz)
    have hz2 := hb.size
    clear HR1 HR2 HR3 HB HTP c0 c1 c2 c3 c4 c5 c6 d0 d1 d2 d3 d4 d5 d6 hb2
    have HR3 := Lib.hid hr3
    have HB := Lib.hid hb
    clear hr3 hb
    go_wp2_with fail
    refine (HLO.out _).mono ?_
    rintro e w3 ⟨he, hb3⟩
    obtain ⟨⟨⟨r0, r1, r2, r3, r4, r5⟩, rd⟩, re⟩ := RW
    unfold rtv at he
    simp only at he
    subst he
    have hr3 := HR3.out.up hb3
    have hb := HB.out.trans (hb3.mono hz2)
    clear HR3 HB HLO HW hb3
    obtain ⟨c0, c1, c2, c3, c4, c5, c6⟩ := hr3.r7
    simp only [Nat.zero_add] at c0 c1 c2 c3 c4 c5 c6
    have f0 := hr3.frozen 0
    have f1 := hr3.frozen 1
    have f2 := hr3.frozen 2
    have f3 := hr3.frozen 3
    have f4 := hr3.frozen 4
    have f5 := hr3.frozen 5
    have f6 := hr3.frozen 6
    have HR3 := Lib.hid hr3
    have HB := Lib.hid hb
    clear hr3 hb
    go_wp2
    change bodyPost _ _ _ _ _ (putR w3 (w.heap.size + 1 + 1) r0 r1 r2 r3 r4 r5 rd)
    clear c0 c1 c2 c3 c4 c5 c6
    obtain ⟨c0, c1, c2, c3, c4, c5, c6⟩ := (putR_row HR3.out r0 r1 r2 r3 r4 r5 rd).r7
    have hB := putR_below HB.out (show w.heap.size ≤ w.heap.size + 1 + 1 by omega) r0 r1 r2 r3 r4 r5 rd
    generalize putR w3 (w.heap.size + 1 + 1) r0 r1 r2 r3 r4 r5 rd = W' at *
    simp only [Nat.zero_add] at c0 c1 c2 c3 c4 c5 c6
    exact bodyPost_ret (v := .tuple #[.agg #[.int .i64 r0, .int .i64 r1, .int .i64 r2, .int .i64 r3, .int .i64 r4, .int .i64 r5, .int .i64 rd], .int .i64 re]) (by simp [results, Tryd.results127, c0, c1, c2, c3, c4, c5, c6, go_sem]) rfl ⟨rfl, hB⟩
  · have hEb : (E != 0) = true := by simp [hE0]
    have hWE : RW = (Rt.zero, E) := by
      have h := HW.out
      have h2 := HEE.out
      by_cases h0 : ex = 0
      · rw [if_pos h0] at h h2
        subst h2
        rw [if_neg hE0] at h
        exact h
      · rw [if_neg h0] at h h2
        subst h2
        exact h
    have HWE := Lib.hid hWE
    obtain ⟨c0, c1, c2, c3, c4, c5, c6⟩ := HR3.out.r7
    simp only [Nat.zero_add] at c0 c1 c2 c3 c4 c5 c6
    have f0 := HR3.out.frozen 0
    have f1 := HR3.out.frozen 1
    have f2 := HR3.out.frozen 2
    have f3 := HR3.out.frozen 3
    have f4 := HR3.out.frozen 4
    have f5 := HR3.out.frozen 5
    have f6 := HR3.out.frozen 6
    clear hWE HW hE0 hcx hcy
    go_wp2
    change bodyPost _ _ _ _ _ (putR w1 (w.heap.size + 1 + 1) 0 0 0 0 0 0 0)
    clear c0 c1 c2 c3 c4 c5 c6
    obtain ⟨c0, c1, c2, c3, c4, c5, c6⟩ := (putR_row HR3.out 0 0 0 0 0 0 0).r7
    have hB := putR_below HB.out (show w.heap.size ≤ w.heap.size + 1 + 1 by omega) 0 0 0 0 0 0 0
    generalize putR w1 (w.heap.size + 1 + 1) 0 0 0 0 0 0 0 = W' at *
    simp only [Nat.zero_add] at c0 c1 c2 c3 c4 c5 c6
    refine bodyPost_ret (v := .tuple #[.agg #[.int .i64 0, .int .i64 0, .int .i64 0, .int .i64 0, .int .i64 0, .int .i64 0, .int .i64 0], .int .i64 E]) (by simp [results, Tryd.results127, c0, c1, c2, c3, c4, c5, c6, go_sem]) rfl ⟨?_, hB⟩
    rw [HWE.out]
    rfl
end Go.Proofs.YtkoghdgfllichaaDoor
