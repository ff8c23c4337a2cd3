import Derived.Test.YtkoghdgfllichaaDoorKB8
namespace Go.Proofs.YtkoghdgfllichaaDoor
open Go.RowKit

def PwRel (W : World) (A : Nat) (n : Int) (l : List Int) (iv : Value) (wr : World) : Prop :=
  ∃ i : Nat, i ≤ 6 ∧ iv = .int .i64 (i : Int) ∧ RowI wr A 22 (mixL (l.map (· * n)) l i) ∧ Below A W wr
theorem map_at {f : Int → Int} {X : List Int} {i : Nat} {x : Int} (hx : X[i]? = some x) : (X.map f)[i]? = some (f x) := by
  rw [List.getElem?_map, hx]; rfl
theorem mixL_own {Z O : List Int} {i : Nat} {x : Int} (hl : Z.length = O.length) (hx : O[i]? = some x) : (mixL Z O i)[i]? = some x := by
  have hi := (List.getElem?_eq_some_iff.1 hx).1
  have h1 : (Z.take i).length = i := by rw [List.length_take]; omega
  unfold mixL
  rw [List.getElem?_append_right (by omega), h1, Nat.sub_self, List.getElem?_drop, Nat.add_zero]
  exact hx
set_option maxRecDepth 100000 in
set_option maxHeartbeats 1000000 in
theorem Pow_any (x0 x1 x2 x3 x4 x5 xd n d : Int) (w : World) :
    Calls Tryd.prog 128 #[.agg #[.int .i64 x0, .int .i64 x1, .int .i64 x2, .int .i64 x3, .int .i64 x4, .int .i64 x5, .int .i64 xd], .int .i64 n, .int .i64 d] w (RtPost w (rpowW ⟨⟨x0, x1, x2, x3, x4, x5⟩, xd⟩ n d)) := by
  have hV : V6.scl n ⟨x0, x1, x2, x3, x4, x5⟩ = ⟨x0 * n, x1 * n, x2 * n, x3 * n, x4 * n, x5 * n⟩ := by
    refine V6.eq ?_ ?_ ?_ ?_ ?_ ?_ <;> simp only [V6.scl] <;> exact Int.mul_comm _ _
  have hW : rpowW ⟨⟨x0, x1, x2, x3, x4, x5⟩, xd⟩ n d = if Rt.err ⟨⟨x0, x1, x2, x3, x4, x5⟩, xd⟩ = 0 then (if -1000 ≤ n ∧ n ≤ 1000 ∧ -1000 ≤ d ∧ d ≤ 1000 ∧ d ≠ 0 then lowW ⟨x0 * n, x1 * n, x2 * n, x3 * n, x4 * n, x5 * n⟩ (xd * d) else (Rt.zero, 2)) else (Rt.zero, Rt.err ⟨⟨x0, x1, x2, x3, x4, x5⟩, xd⟩) := by
    unfold rpowW
    rw [← hV]
  have hokx := fun h => (Rt.ok_iff (r := ⟨⟨x0, x1, x2, x3, x4, x5⟩, xd⟩)).1 h
  have hE := exR_one ⟨⟨x0, x1, x2, x3, x4, x5⟩, xd⟩
  have hex := fun (W : World) (g : Nat) (h : W.heap[g]? = some (.cells (cellsR ⟨⟨x0, x1, x2, x3, x4, x5⟩, xd⟩).toArray 24 (0, 0))) => examineR_any g [⟨⟨x0, x1, x2, x3, x4, x5⟩, xd⟩] W (Array.getElem?_eq_some_iff.1 h).1 (cell_one1 h) (by simp)
  rw [hE] at hex
  have HEX := Lib.hid hex
  have HOX := Lib.hid hokx
  clear hex hV hE hokx
  generalize rpowW ⟨⟨x0, x1, x2, x3, x4, x5⟩, xd⟩ n d = RW at *
  have HW := Lib.hid hW
  clear hW
  generalize hee : Rt.err ⟨⟨x0, x1, x2, x3, x4, x5⟩, xd⟩ = E at *
  clear hee
  go_enter Tryd.func128, Tryd.ntmps128
  have hr2 : RowI ((w.alloc (.cells #[.int .i64 x0, .int .i64 x1, .int .i64 x2, .int .i64 x3, .int .i64 x4, .int .i64 x5, .int .i64 xd] 24)).alloc (.cells #[.int .i64 0, .int .i64 0, .int .i64 0, .int .i64 0, .int .i64 0, .int .i64 0, .int .i64 0] 24)) (w.heap.size + 1) 24 [0, 0, 0, 0, 0, 0, 0] := by
    have h := RowI.of_alloc (w.alloc (.cells #[.int .i64 x0, .int .i64 x1, .int .i64 x2, .int .i64 x3, .int .i64 x4, .int .i64 x5, .int .i64 xd] 24)) 24 [0, 0, 0, 0, 0, 0, 0]
    rw [World.size_alloc] at h
    exact h
  have hr1 : RowI ((w.alloc (.cells #[.int .i64 x0, .int .i64 x1, .int .i64 x2, .int .i64 x3, .int .i64 x4, .int .i64 x5, .int .i64 xd] 24)).alloc (.cells #[.int .i64 0, .int .i64 0, .int .i64 0, .int .i64 0, .int .i64 0, .int .i64 0, .int .i64 0] 24)) w.heap.size 24 [x0, x1, x2, x3, x4, x5, xd] := (RowI.of_alloc w 24 [x0, x1, x2, x3, x4, x5, xd]).alloc _
  have hb0 := (belA w (.cells #[.int .i64 x0, .int .i64 x1, .int .i64 x2, .int .i64 x3, .int .i64 x4, .int .i64 x5, .int .i64 xd] 24)).alloc (by simp) (.cells #[.int .i64 0, .int .i64 0, .int .i64 0, .int .i64 0, .int .i64 0, .int .i64 0, .int .i64 0] 24)
  have HR1 := Lib.hid hr1
  have HR2 := Lib.hid hr2
  have HB0 := Lib.hid hb0
  clear hr1 hr2 hb0
  go_wp2_with fail
  refine (HEX.out _ _ (by have h := heap_alloc_new ((w.alloc (.cells #[.int .i64 x0, .int .i64 x1, .int .i64 x2, .int .i64 x3, .int .i64 x4, .int .i64 x5, .int .i64 xd] 24)).alloc (.cells #[.int .i64 0, .int .i64 0, .int .i64 0, .int .i64 0, .int .i64 0, .int .i64 0, .int .i64 0] 24)) (.cells (cellsR ⟨⟨x0, x1, x2, x3, x4, x5⟩, xd⟩).toArray 24); rw [World.size_alloc, World.size_alloc] at h; exact h)).mono ?_
  rintro e w1 ⟨he, hb1⟩
  subst he
  have hb1' := (belA ((w.alloc (.cells #[.int .i64 x0, .int .i64 x1, .int .i64 x2, .int .i64 x3, .int .i64 x4, .int .i64 x5, .int .i64 xd] 24)).alloc (.cells #[.int .i64 0, .int .i64 0, .int .i64 0, .int .i64 0, .int .i64 0, .int .i64 0, .int .i64 0] 24)) _).trans (hb1.mono (by simp))
  have hr1 := HR1.out.up hb1'
  have hr2 := HR2.out.up hb1'
  have hb := HB0.out.trans (hb1'.mono (by simp; omega))
  clear HR1 HR2 HB0 hb1 hb1' HEX
  have HR1 := Lib.hid hr1
  have HR2 := Lib.hid hr2
  have HB := Lib.hid hb
  have hz := hb.size
  have hlt2 := hr2.lt
  clear hr1 hr2 hb
  obtain ⟨c0, c1, c2, c3, c4, c5, c6⟩ := HR2.out.r7
  simp only [Nat.zero_add] at c0 c1 c2 c3 c4 c5 c6
  have f0 := HR2.out.frozen 0
  have f1 := HR2.out.frozen 1
  have f2 := HR2.out.frozen 2
  have f3 := HR2.out.frozen 3
  have f4 := HR2.out.frozen 4
  have f5 := HR2.out.frozen 5
  have f6 := HR2.out.frozen 6
  by_cases hE0 : E = 0
  · subst hE0
    have okx := HOX.out rfl
    obtain ⟨bx0, bx1, bx2, bx3, bx4, bx5, bxd⟩ := okx.nums
    simp only at bx0 bx1 bx2 bx3 bx4 bx5 bxd
    clear okx
    have hW := HW.out
    rw [if_pos rfl] at hW
    clear HW
    by_cases hbad : -1000 ≤ n ∧ n ≤ 1000 ∧ -1000 ≤ d ∧ d ≤ 1000 ∧ d ≠ 0
    case neg =>
      rw [if_neg hbad] at hW
      have HW := Lib.hid hW
      clear hW
      go_wp2_with fail
      refine (within_any n (-1000) 1000 _).mono ?_
      rintro e w2 ⟨he, hw2⟩
      subst he
      subst hw2
      by_cases hn : wiB n (-1000) 1000 = true
      case neg =>
        have hn : wiB n (-1000) 1000 = false := by simpa using hn
        rw [hn]
        clear hn
        go_wp2
        change bodyPost _ _ _ _ _ (putR w1 (w.heap.size + 1) 0 0 0 0 0 0 0)
        clear c0 c1 c2 c3 c4 c5 c6
        obtain ⟨c0, c1, c2, c3, c4, c5, c6⟩ := (putR_row HR2.out 0 0 0 0 0 0 0).r7
        have hB := putR_below HB.out (show w.heap.size ≤ w.heap.size + 1 by omega) 0 0 0 0 0 0 0
        generalize putR w1 (w.heap.size + 1) 0 0 0 0 0 0 0 = W' at *
        simp only [Nat.zero_add] at c0 c1 c2 c3 c4 c5 c6
        refine bodyPost_ret (v := .tuple #[.agg #[.int .i64 0, .int .i64 0, .int .i64 0, .int .i64 0, .int .i64 0, .int .i64 0, .int .i64 0], .int .i64 2]) (by simp [results, Tryd.results128, c0, c1, c2, c3, c4, c5, c6, go_sem]) rfl ⟨?_, hB⟩
        rw [HW.out]
        rfl
      rw [hn]
      by_cases hd : wiB d (-1000) 1000 = true
      case neg =>
        have hd : wiB d (-1000) 1000 = false := by simpa using hd
        go_wp2_with fail
        refine (within_any d (-1000) 1000 _).mono ?_
        rintro e w2 ⟨he, hw2⟩
        subst he
        subst hw2
        rw [hd]
        clear hd
        go_wp2
        change bodyPost _ _ _ _ _ (putR w1 (w.heap.size + 1) 0 0 0 0 0 0 0)
        clear c0 c1 c2 c3 c4 c5 c6
        obtain ⟨c0, c1, c2, c3, c4, c5, c6⟩ := (putR_row HR2.out 0 0 0 0 0 0 0).r7
        have hB := putR_below HB.out (show w.heap.size ≤ w.heap.size + 1 by omega) 0 0 0 0 0 0 0
        generalize putR w1 (w.heap.size + 1) 0 0 0 0 0 0 0 = W' at *
        simp only [Nat.zero_add] at c0 c1 c2 c3 c4 c5 c6
        refine bodyPost_ret (v := .tuple #[.agg #[.int .i64 0, .int .i64 0, .int .i64 0, .int .i64 0, .int .i64 0, .int .i64 0, .int .i64 0], .int .i64 2]) (by simp [results, Tryd.results128, c0, c1, c2, c3, c4, c5, c6, go_sem]) rfl ⟨?_, hB⟩
        rw [HW.out]
        rfl
      go_wp2_with fail
      refine (within_any d (-1000) 1000 _).mono ?_
      rintro e w2 ⟨he, hw2⟩
      subst he
      subst hw2
      rw [hd]
      have hd0 : d = 0 := by
        unfold wiB at hn hd
        simp only [Bool.and_eq_true, decide_eq_true_eq] at hn hd
        omega
      subst hd0
      clear hn hd hbad
      go_wp2
      change bodyPost _ _ _ _ _ (putR w1 (w.heap.size + 1) 0 0 0 0 0 0 0)
      clear c0 c1 c2 c3 c4 c5 c6
      obtain ⟨c0, c1, c2, c3, c4, c5, c6⟩ := (putR_row HR2.out 0 0 0 0 0 0 0).r7
      have hB := putR_below HB.out (show w.heap.size ≤ w.heap.size + 1 by omega) 0 0 0 0 0 0 0
      generalize putR w1 (w.heap.size + 1) 0 0 0 0 0 0 0 = W' at *
      simp only [Nat.zero_add] at c0 c1 c2 c3 c4 c5 c6
      refine bodyPost_ret (v := .tuple #[.agg #[.int .i64 0, .int .i64 0, .int .i64 0, .int .i64 0, .int .i64 0, .int .i64 0, .int .i64 0], .int .i64 2]) (by simp [results, Tryd.results128, c0, c1, c2, c3, c4, c5, c6, go_sem]) rfl ⟨?_, hB⟩
      rw [HW.out]
      rfl
    rw [if_pos hbad] at hW
    obtain ⟨n1, n2, d1, d2, d0⟩ := hbad
    have hn : wiB n (-1000) 1000 = true := by unfold wiB; rw [decide_eq_true n1, decide_eq_true n2]; rfl
    have hd : wiB d (-1000) 1000 = true := by unfold wiB; rw [decide_eq_true d1, decide_eq_true d2]; rfl
    have hzl : ∀ m ∈ [x0 * n, x1 * n, x2 * n, x3 * n, x4 * n, x5 * n], -1000000000 ≤ m ∧ m ≤ 1000000000 := by
      simp only [List.mem_cons, List.not_mem_nil, or_false, forall_eq_or_imp, forall_eq]
      have q : ∀ y : Int, -100000 ≤ y ∧ y ≤ 100000 → -1000000000 ≤ y * n ∧ y * n ≤ 1000000000 := fun y hy => by
        have := mul_bd (A := 100000) (B := 1000) hy ⟨n1, n2⟩ (by omega)
        omega
      exact ⟨q _ bx0, q _ bx1, q _ bx2, q _ bx3, q _ bx4, q _ bx5⟩
    have hdd := mul_bd (a := xd) (A := 1000) (B := 1000) (by omega) ⟨d1, d2⟩ (by omega)
    have hd0 : xd * d ≠ 0 := Int.mul_ne_zero (by omega) d0
    have hlo := fun W => lowest_any (x0 * n) (x1 * n) (x2 * n) (x3 * n) (x4 * n) (x5 * n) (xd * d) W hd0 (by omega) hzl
    rw [← hW] at hlo
    have hxl : ∀ m ∈ [x0, x1, x2, x3, x4, x5], -100000 ≤ m ∧ m ≤ 100000 := by
      simp only [List.mem_cons, List.not_mem_nil, or_false, forall_eq_or_imp, forall_eq]
      exact ⟨bx0, bx1, bx2, bx3, bx4, bx5⟩
    obtain ⟨D, hD⟩ : ∃ D, xd * d = D := ⟨_, rfl⟩
    rw [hD] at hlo hdd
    have eD : IntKind.i64.wrap D = D := IntWalk.i64_in _ (by omega)
    have HLO := Lib.hid hlo
    have HXL := Lib.hid hxl
    have HDE := Lib.hid hD
    have HED := Lib.hid eD
    clear hlo hxl hzl hd0 hW hD eD bx0 bx1 bx2 bx3 bx4 bx5
    have d0b : (d == 0) = false := beq_false_of_ne d0
    obtain ⟨e0, e1, e2, e3, e4, e5, e6⟩ := HR1.out.r7
    simp only [Nat.zero_add] at e0 e1 e2 e3 e4 e5 e6
    go_wp2_with fail
    refine (within_any n (-1000) 1000 _).mono ?_
    rintro e w2 ⟨he, hw2⟩
    subst he
    subst hw2
    rw [hn]
    go_wp2_with fail
    refine (within_any d (-1000) 1000 _).mono ?_
    rintro e w2 ⟨he, hw2⟩
    subst he
    subst hw2
    rw [hd]
    clear hn hd
    go_wp2
    have ha0 : RowI (w1.alloc (.cells #[.int .i64 x0, .int .i64 x1, .int .i64 x2, .int .i64 x3, .int .i64 x4, .int .i64 x5] 22)) w1.heap.size 22 (mixL ([x0, x1, x2, x3, x4, x5].map (· * n)) [x0, x1, x2, x3, x4, x5] 0) := RowI.of_alloc w1 22 [x0, x1, x2, x3, x4, x5]
    have HA0 := Lib.hid ha0
    have HB1 := Lib.hid (belA w1 (.cells #[.int .i64 x0, .int .i64 x1, .int .i64 x2, .int .i64 x3, .int .i64 x4, .int .i64 x5] 22))
    clear ha0 c0 c1 c2 c3 c4 c5 c6 f0 f1 f2 f3 f4 f5 f6 e0 e1 e2 e3 e4 e5 e6
    go_loopw [33] (fun iv wr => PwRel w1 w1.heap.size n [x0, x1, x2, x3, x4, x5] iv wr) (fun iv _ => 6 - (intOf iv).toNat)
    case atStart => exact ⟨0, Nat.zero_le _, rfl, HA0.out, HB1.out⟩
    case round =>
      clear HA0 HB1
      obtain ⟨i, hi, rfl, hrow, hb⟩ := hrel
      have HROW := Lib.hid hrow
      have HBR := Lib.hid hb
      clear hrow hb
      by_cases hil : i < 6
      · obtain ⟨x, hx⟩ : ∃ x, [x0, x1, x2, x3, x4, x5][i]? = some x := ⟨[x0, x1, x2, x3, x4, x5][i], List.getElem?_eq_getElem _⟩
        have hilI : (i : Int) < 6 := by omega
        have hiI : (0 : Int) ≤ (i : Int) := by omega
        have hxb := HXL.out x (List.mem_of_getElem? hx)
        have m0 := HROW.out.cell (mixL_own (Z := [x0, x1, x2, x3, x4, x5].map (· * n)) rfl hx)
        have fm := HROW.out.frozen i
        have hset := mixL_set (Z := [x0, x1, x2, x3, x4, x5].map (· * n)) (O := [x0, x1, x2, x3, x4, x5]) rfl (map_at hx)
        have p1 := mul_bd (A := 100000) (B := 1000) hxb ⟨n1, n2⟩ (by omega)
        obtain ⟨y, hy⟩ : ∃ y, x * n = y := ⟨_, rfl⟩
        rw [hy] at p1
        simp only [hy] at hset
        have hy2 : IntKind.i64.wrap y = y := IntWalk.i64_in _ (by omega)
        have HSET := Lib.hid hset
        clear hx hset
        go_wp2
        refine ⟨⟨i + 1, by omega, by go_num, ?_, HBR.out.setCell (Nat.le_refl _) _⟩, by simp [intOf]; omega⟩
        have h := HROW.out.set i y
        rw [HSET.out] at h
        exact h
      · obtain rfl : i = 6 := by omega
        have hl6 : mixL ([x0, x1, x2, x3, x4, x5].map (· * n)) [x0, x1, x2, x3, x4, x5] 6 = [x0 * n, x1 * n, x2 * n, x3 * n, x4 * n, x5 * n] := rfl
        have hrow := HROW.out
        rw [hl6] at hrow
        generalize x0 * n = y0 at *
        generalize x1 * n = y1 at *
        generalize x2 * n = y2 at *
        generalize x3 * n = y3 at *
        generalize x4 * n = y4 at *
        generalize x5 * n = y5 at *
        have m0 := hrow.cell (i := 0) (x := y0) rfl
        have m1 := hrow.cell (i := 1) (x := y1) rfl
        have m2 := hrow.cell (i := 2) (x := y2) rfl
        have m3 := hrow.cell (i := 3) (x := y3) rfl
        have m4 := hrow.cell (i := 4) (x := y4) rfl
        have m5 := hrow.cell (i := 5) (x := y5) rfl
        have k6 := (HR1.out.up HBR.out).cell (i := 6) (x := xd) rfl
        have hr2 := HR2.out.up HBR.out
        have hb := HB.out.trans (HBR.out.mono hz)
        have hzr := hb.size
        have hDE := HDE.out
        have hED := HED.out
        clear HROW hl6 hrow HR2 HB HR1
        have HR2 := Lib.hid hr2
        have HB := Lib.hid hb
        clear hr2 hb
        go_wp2_with fail
        refine (HLO.out _).mono ?_
        rintro e w3 ⟨he, hb3⟩
        obtain ⟨⟨⟨r0, r1, r2, r3, r4, r5⟩, rd⟩, re⟩ := RW
        unfold rtv at he
        simp only at he
        subst he
        have hr2 := HR2.out.up hb3
        have hb := HB.out.trans (hb3.mono hzr)
        clear HR2 HB HLO hb3 hDE
        obtain ⟨c0, c1, c2, c3, c4, c5, c6⟩ := hr2.r7
        simp only [Nat.zero_add] at c0 c1 c2 c3 c4 c5 c6
        have f0 := hr2.frozen 0
        have f1 := hr2.frozen 1
        have f2 := hr2.frozen 2
        have f3 := hr2.frozen 3
        have f4 := hr2.frozen 4
        have f5 := hr2.frozen 5
        have f6 := hr2.frozen 6
        have HR2 := Lib.hid hr2
        have HB := Lib.hid hb
        clear hr2 hb
        go_wp2
        change bodyPost _ _ _ _ _ (putR w3 (w.heap.size + 1) r0 r1 r2 r3 r4 r5 rd)
        clear c0 c1 c2 c3 c4 c5 c6
        obtain ⟨c0, c1, c2, c3, c4, c5, c6⟩ := (putR_row HR2.out r0 r1 r2 r3 r4 r5 rd).r7
        have hB := putR_below HB.out (show w.heap.size ≤ w.heap.size + 1 by omega) r0 r1 r2 r3 r4 r5 rd
        generalize putR w3 (w.heap.size + 1) r0 r1 r2 r3 r4 r5 rd = W' at *
        simp only [Nat.zero_add] at c0 c1 c2 c3 c4 c5 c6
        refine bodyPost_ret (v := .tuple #[.agg #[.int .i64 r0, .int .i64 r1, .int .i64 r2, .int .i64 r3, .int .i64 r4, .int .i64 r5, .int .i64 rd], .int .i64 re]) (by simp [results, Tryd.results128, c0, c1, c2, c3, c4, c5, c6, go_sem]) rfl ⟨?_, hB⟩
        rfl
  · have hEb : (E != 0) = true := by simp [hE0]
    have hW := HW.out
    rw [if_neg hE0] at hW
    have HWE := Lib.hid hW
    clear hW HW hE0
    go_wp2
    change bodyPost _ _ _ _ _ (putR w1 (w.heap.size + 1) 0 0 0 0 0 0 0)
    clear c0 c1 c2 c3 c4 c5 c6
    obtain ⟨c0, c1, c2, c3, c4, c5, c6⟩ := (putR_row HR2.out 0 0 0 0 0 0 0).r7
    have hB := putR_below HB.out (show w.heap.size ≤ w.heap.size + 1 by omega) 0 0 0 0 0 0 0
    generalize putR w1 (w.heap.size + 1) 0 0 0 0 0 0 0 = W' at *
    simp only [Nat.zero_add] at c0 c1 c2 c3 c4 c5 c6
    refine bodyPost_ret (v := .tuple #[.agg #[.int .i64 0, .int .i64 0, .int .i64 0, .int .i64 0, .int .i64 0, .int .i64 0, .int .i64 0], .int .i64 E]) (by simp [results, Tryd.results128, c0, c1, c2, c3, c4, c5, c6, go_sem]) rfl ⟨?_, hB⟩
    rw [HWE.out]
    rfl

end Go.Proofs.YtkoghdgfllichaaDoor
