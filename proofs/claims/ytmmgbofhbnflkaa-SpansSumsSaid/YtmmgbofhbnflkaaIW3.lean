import Derived.Test.YtmmgbofhbnflkaaIQ11
namespace Go.Proofs.Ytmmgbofhbnflkaa
open Go.RowKit

theorem Cell2.ne {w : World} {g r : Nat} {x y : Value} (h : Cell2 w g x y) (hr : r = w.heap.size) : g ≠ r := by have := h.lt; omega
theorem Cell2.setOther2 {w : World} {g r : Nat} {x y : Value} (h : Cell2 w g x y) (hne : g ≠ r) (u v : Value) : Cell2 ((w.setCell ⟨r, 0, none⟩ u).setCell ⟨r, 1, none⟩ v) g x y := (h.setOther hne 0 u).setOther hne 1 v

set_option maxRecDepth 100000 in
set_option maxHeartbeats 8000000 in
theorem sums_walk (a1 a2 b1 b2 s1 s2 se t1 t2 te u1 u2 ue x1 x2 xe ce : Int) (w : World)
    (H1 : ∀ W, Calls Try.prog 10 #[(.agg #[.int .i64 a1, .int .i64 a2]), (.agg #[.int .i64 b1, .int .i64 b2])] W fun e w' => e = .returned (.tuple #[.agg #[.int .i64 s1, .int .i64 s2], .int .i64 se]) ∧ Below W.heap.size W w')
    (R1 : ∀ W, Calls Try.prog 11 #[(.agg #[.int .i64 a1, .int .i64 a2]), (.agg #[.int .i64 b1, .int .i64 b2])] W fun e w' => e = .returned (.tuple #[.agg #[.int .i64 s1, .int .i64 s2], .int .i64 se]) ∧ Below W.heap.size W w')
    (H2 : ∀ W, Calls Try.prog 12 #[(.agg #[.int .i64 a1, .int .i64 a2]), (.agg #[.int .i64 b1, .int .i64 b2])] W fun e w' => e = .returned (.tuple #[.agg #[.int .i64 t1, .int .i64 t2], .int .i64 te]) ∧ Below W.heap.size W w')
    (R2 : ∀ W, Calls Try.prog 13 #[(.agg #[.int .i64 a1, .int .i64 a2]), (.agg #[.int .i64 b1, .int .i64 b2])] W fun e w' => e = .returned (.tuple #[.agg #[.int .i64 t1, .int .i64 t2], .int .i64 te]) ∧ Below W.heap.size W w')
    (H3 : ∀ W, Calls Try.prog 16 #[(.agg #[.int .i64 a1, .int .i64 a2]), (.agg #[.int .i64 b1, .int .i64 b2])] W fun e w' => e = .returned (.tuple #[.agg #[.int .i64 u1, .int .i64 u2], .int .i64 ue]) ∧ Below W.heap.size W w')
    (R3 : ∀ W, Calls Try.prog 17 #[(.agg #[.int .i64 a1, .int .i64 a2]), (.agg #[.int .i64 b1, .int .i64 b2])] W fun e w' => e = .returned (.tuple #[.agg #[.int .i64 u1, .int .i64 u2], .int .i64 ue]) ∧ Below W.heap.size W w')
    (H4 : ∀ W, Calls Try.prog 18 #[(.agg #[.int .i64 a1, .int .i64 a2]), (.agg #[.int .i64 b1, .int .i64 b2])] W fun e w' => e = .returned (.tuple #[.agg #[.int .i64 x1, .int .i64 x2], .int .i64 xe]) ∧ Below W.heap.size W w')
    (R4 : ∀ W, Calls Try.prog 19 #[(.agg #[.int .i64 a1, .int .i64 a2]), (.agg #[.int .i64 b1, .int .i64 b2])] W fun e w' => e = .returned (.tuple #[.agg #[.int .i64 x1, .int .i64 x2], .int .i64 xe]) ∧ Below W.heap.size W w')
    (HC : ∀ W, Calls Try.prog 14 #[(.agg #[.int .i64 a1, .int .i64 a2])] W fun e w' => e = .returned (.int .i64 ce) ∧ Below W.heap.size W w')
    (RC : ∀ W, Calls Try.prog 15 #[(.agg #[.int .i64 a1, .int .i64 a2])] W fun e w' => e = .returned (.int .i64 ce) ∧ Below W.heap.size W w') :
    Calls Try.prog 3 #[(.agg #[.int .i64 a1, .int .i64 a2]), (.agg #[.int .i64 b1, .int .i64 b2])] w fun e w' => e = .returned (.bool true) ∧ Below w.heap.size w w' := by
  have H1 := Lib.hid H1
  have R1 := Lib.hid R1
  have H2 := Lib.hid H2
  have R2 := Lib.hid R2
  have H3 := Lib.hid H3
  have R3 := Lib.hid R3
  have H4 := Lib.hid H4
  have R4 := Lib.hid R4
  have HC := Lib.hid HC
  have RC := Lib.hid RC
  go_enter Try.func3, Try.ntmps3
  have KA := Lib.hid ((Cell2.new w (.int .i64 a1) (.int .i64 a2) 23).alloc (.cells #[.int .i64 b1, .int .i64 b2] 23))
  have kb := Cell2.new (w.alloc (.cells #[.int .i64 a1, .int .i64 a2] 23)) (.int .i64 b1) (.int .i64 b2) 23
  rw [show (w.alloc (.cells #[.int .i64 a1, .int .i64 a2] 23)).heap.size = w.heap.size + 1 by simp] at kb
  have KB := Lib.hid kb
  clear kb
  have HB := Lib.hid (below_alloc2 w (.cells #[.int .i64 a1, .int .i64 a2] 23) (.cells #[.int .i64 b1, .int .i64 b2] 23))
  go_wp2_with fail
  refine (H1.out _).mono ?_
  rintro e w' ⟨he, hb⟩
  subst he
  have HB' := Lib.hid (Below.after HB.out hb)
  clear HB
  have HB := HB'
  clear HB'
  have KA' := Lib.hid (KA.out.later hb)
  clear KA
  have KA := KA'
  clear KA'
  have KB' := Lib.hid (KB.out.later hb)
  clear KB
  have KB := KB'
  clear KB'
  have nKAKC := Lib.hid (KA.out.ne (r := w'.heap.size) rfl)
  have nKBKC := Lib.hid (KB.out.ne (r := w'.heap.size) rfl)
  have qKC := Lib.hid HB.out.size
  clear hb
  have hb := below_alloc w' (.cells #[.int .i64 s1, .int .i64 s2] 23)
  have HB' := Lib.hid (Below.after HB.out hb)
  clear HB
  have HB := HB'
  clear HB'
  have KA' := Lib.hid (KA.out.later hb)
  clear KA
  have KA := KA'
  clear KA'
  have KB' := Lib.hid (KB.out.later hb)
  clear KB
  have KB := KB'
  clear KB'
  clear hb
  have KC := Lib.hid (Cell2.new w' (.int .i64 s1) (.int .i64 s2) 23)
  have lKA0 := KA.out.c0
  have lKA1 := KA.out.c1
  have lKB0 := KB.out.c0
  have lKB1 := KB.out.c1
  have lKC0 := KC.out.c0
  have lKC1 := KC.out.c1
  go_wp2_with fail
  generalize w'.heap.size = gKC at *
  generalize w'.alloc (.cells #[.int .i64 s1, .int .i64 s2] 23) = vKC at *
  refine (R1.out _).mono ?_
  rintro e w' ⟨he, hb⟩
  subst he
  clear lKA0 lKA1 lKB0 lKB1 lKC0 lKC1
  have HB' := Lib.hid (Below.after HB.out hb)
  clear HB
  have HB := HB'
  clear HB'
  have KA' := Lib.hid (KA.out.later hb)
  clear KA
  have KA := KA'
  clear KA'
  have KB' := Lib.hid (KB.out.later hb)
  clear KB
  have KB := KB'
  clear KB'
  have KC' := Lib.hid (KC.out.later hb)
  clear KC
  have KC := KC'
  clear KC'
  have nKAKD := Lib.hid (KA.out.ne (r := w'.heap.size) rfl)
  have nKBKD := Lib.hid (KB.out.ne (r := w'.heap.size) rfl)
  have nKCKD := Lib.hid (KC.out.ne (r := w'.heap.size) rfl)
  have qKD := Lib.hid HB.out.size
  clear hb
  have hb := below_alloc w' (.cells #[.int .i64 s1, .int .i64 s2] 23)
  have HB' := Lib.hid (Below.after HB.out hb)
  clear HB
  have HB := HB'
  clear HB'
  have KA' := Lib.hid (KA.out.later hb)
  clear KA
  have KA := KA'
  clear KA'
  have KB' := Lib.hid (KB.out.later hb)
  clear KB
  have KB := KB'
  clear KB'
  have KC' := Lib.hid (KC.out.later hb)
  clear KC
  have KC := KC'
  clear KC'
  clear hb
  have KD := Lib.hid (Cell2.new w' (.int .i64 s1) (.int .i64 s2) 23)
  have lKA0 := KA.out.c0
  have lKA1 := KA.out.c1
  have lKB0 := KB.out.c0
  have lKB1 := KB.out.c1
  have lKC0 := KC.out.c0
  have lKC1 := KC.out.c1
  have lKD0 := KD.out.c0
  have lKD1 := KD.out.c1
  go_wp2_with fail
  generalize w'.heap.size = gKD at *
  generalize w'.alloc (.cells #[.int .i64 s1, .int .i64 s2] 23) = vKD at *
  refine (H2.out _).mono ?_
  rintro e w' ⟨he, hb⟩
  subst he
  clear lKA0 lKA1 lKB0 lKB1 lKC0 lKC1 lKD0 lKD1
  have HB' := Lib.hid (Below.after HB.out hb)
  clear HB
  have HB := HB'
  clear HB'
  have KA' := Lib.hid (KA.out.later hb)
  clear KA
  have KA := KA'
  clear KA'
  have KB' := Lib.hid (KB.out.later hb)
  clear KB
  have KB := KB'
  clear KB'
  have KC' := Lib.hid (KC.out.later hb)
  clear KC
  have KC := KC'
  clear KC'
  have KD' := Lib.hid (KD.out.later hb)
  clear KD
  have KD := KD'
  clear KD'
  have nKAKG := Lib.hid (KA.out.ne (r := w'.heap.size) rfl)
  have nKBKG := Lib.hid (KB.out.ne (r := w'.heap.size) rfl)
  have nKCKG := Lib.hid (KC.out.ne (r := w'.heap.size) rfl)
  have nKDKG := Lib.hid (KD.out.ne (r := w'.heap.size) rfl)
  have qKG := Lib.hid HB.out.size
  clear hb
  have hb := below_alloc w' (.cells #[.int .i64 t1, .int .i64 t2] 23)
  have HB' := Lib.hid (Below.after HB.out hb)
  clear HB
  have HB := HB'
  clear HB'
  have KA' := Lib.hid (KA.out.later hb)
  clear KA
  have KA := KA'
  clear KA'
  have KB' := Lib.hid (KB.out.later hb)
  clear KB
  have KB := KB'
  clear KB'
  have KC' := Lib.hid (KC.out.later hb)
  clear KC
  have KC := KC'
  clear KC'
  have KD' := Lib.hid (KD.out.later hb)
  clear KD
  have KD := KD'
  clear KD'
  clear hb
  have KG := Lib.hid (Cell2.new w' (.int .i64 t1) (.int .i64 t2) 23)
  have lKA0 := KA.out.c0
  have lKA1 := KA.out.c1
  have lKB0 := KB.out.c0
  have lKB1 := KB.out.c1
  have lKC0 := KC.out.c0
  have lKC1 := KC.out.c1
  have lKD0 := KD.out.c0
  have lKD1 := KD.out.c1
  have lKG0 := KG.out.c0
  have lKG1 := KG.out.c1
  go_wp2_with fail
  generalize w'.heap.size = gKG at *
  generalize w'.alloc (.cells #[.int .i64 t1, .int .i64 t2] 23) = vKG at *
  refine (R2.out _).mono ?_
  rintro e w' ⟨he, hb⟩
  subst he
  clear lKA0 lKA1 lKB0 lKB1 lKC0 lKC1 lKD0 lKD1 lKG0 lKG1
  have HB' := Lib.hid (Below.after HB.out hb)
  clear HB
  have HB := HB'
  clear HB'
  have KA' := Lib.hid (KA.out.later hb)
  clear KA
  have KA := KA'
  clear KA'
  have KB' := Lib.hid (KB.out.later hb)
  clear KB
  have KB := KB'
  clear KB'
  have KC' := Lib.hid (KC.out.later hb)
  clear KC
  have KC := KC'
  clear KC'
  have KD' := Lib.hid (KD.out.later hb)
  clear KD
  have KD := KD'
  clear KD'
  have KG' := Lib.hid (KG.out.later hb)
  clear KG
  have KG := KG'
  clear KG'
  have nKAKI := Lib.hid (KA.out.ne (r := w'.heap.size) rfl)
  have nKBKI := Lib.hid (KB.out.ne (r := w'.heap.size) rfl)
  have nKCKI := Lib.hid (KC.out.ne (r := w'.heap.size) rfl)
  have nKDKI := Lib.hid (KD.out.ne (r := w'.heap.size) rfl)
  have nKGKI := Lib.hid (KG.out.ne (r := w'.heap.size) rfl)
  have qKI := Lib.hid HB.out.size
  clear hb
  have hb := below_alloc w' (.cells #[.int .i64 t1, .int .i64 t2] 23)
  have HB' := Lib.hid (Below.after HB.out hb)
  clear HB
  have HB := HB'
  clear HB'
  have KA' := Lib.hid (KA.out.later hb)
  clear KA
  have KA := KA'
  clear KA'
  have KB' := Lib.hid (KB.out.later hb)
  clear KB
  have KB := KB'
  clear KB'
  have KC' := Lib.hid (KC.out.later hb)
  clear KC
  have KC := KC'
  clear KC'
  have KD' := Lib.hid (KD.out.later hb)
  clear KD
  have KD := KD'
  clear KD'
  have KG' := Lib.hid (KG.out.later hb)
  clear KG
  have KG := KG'
  clear KG'
  clear hb
  have KI := Lib.hid (Cell2.new w' (.int .i64 t1) (.int .i64 t2) 23)
  have lKA0 := KA.out.c0
  have lKA1 := KA.out.c1
  have lKB0 := KB.out.c0
  have lKB1 := KB.out.c1
  have lKC0 := KC.out.c0
  have lKC1 := KC.out.c1
  have lKD0 := KD.out.c0
  have lKD1 := KD.out.c1
  have lKG0 := KG.out.c0
  have lKG1 := KG.out.c1
  have lKI0 := KI.out.c0
  have lKI1 := KI.out.c1
  go_wp2_with fail
  generalize w'.heap.size = gKI at *
  generalize w'.alloc (.cells #[.int .i64 t1, .int .i64 t2] 23) = vKI at *
  go_region_held3 (fun w' => w'.cell? ⟨w.heap.size, 0, none⟩ = some (.int .i64 a1) ∧ w'.cell? ⟨w.heap.size, 1, none⟩ = some (.int .i64 a2) ∧ w'.cell? ⟨gKC, 0, none⟩ = some (.int .i64 s1) ∧ w'.cell? ⟨gKC, 1, none⟩ = some (.int .i64 s2) ∧ w'.cell? ⟨gKD, 0, none⟩ = some (.int .i64 s1) ∧ w'.cell? ⟨gKD, 1, none⟩ = some (.int .i64 s2) ∧ w'.cell? ⟨gKG, 0, none⟩ = some (.int .i64 t1) ∧ w'.cell? ⟨gKG, 1, none⟩ = some (.int .i64 t2) ∧ w'.cell? ⟨gKI, 0, none⟩ = some (.int .i64 t1) ∧ w'.cell? ⟨gKI, 1, none⟩ = some (.int .i64 t2))
    (refine ⟨?_, ?_, ?_, ?_, ?_, ?_, ?_, ?_, ?_, ?_⟩ <;> first | with_reducible assumption | go_keep)
    (first
      | (go_at_call 14; refine Calls.mono (HC.out _) ?_; rintro e wx ⟨he, hbx⟩; subst he; have HBx := Lib.hid (Below.after (HB.out.drew) hbx); have KAx := Lib.hid (Cell2.later (KA.out.later (below_drewN _ 1)) hbx); have KBx := Lib.hid (Cell2.later (KB.out.later (below_drewN _ 1)) hbx); have KCx := Lib.hid (Cell2.later (KC.out.later (below_drewN _ 1)) hbx); have KDx := Lib.hid (Cell2.later (KD.out.later (below_drewN _ 1)) hbx); have KGx := Lib.hid (Cell2.later (KG.out.later (below_drewN _ 1)) hbx); have KIx := Lib.hid (Cell2.later (KI.out.later (below_drewN _ 1)) hbx); have lKA0x := KAx.out.c0; have lKA1x := KAx.out.c1; have lKC0x := KCx.out.c0; have lKC1x := KCx.out.c1; have lKD0x := KDx.out.c0; have lKD1x := KDx.out.c1; have lKG0x := KGx.out.c0; have lKG1x := KGx.out.c1; have lKI0x := KIx.out.c0; have lKI1x := KIx.out.c1; clear hbx)
      | (go_at_call 15; refine Calls.mono (RC.out _) ?_; rintro e wy ⟨he, hby⟩; subst he; have HBy := Lib.hid (Below.after HBx.out hby); have KAy := Lib.hid (Cell2.later KAx.out hby); have KBy := Lib.hid (Cell2.later KBx.out hby); have KCy := Lib.hid (Cell2.later KCx.out hby); have KDy := Lib.hid (Cell2.later KDx.out hby); have KGy := Lib.hid (Cell2.later KGx.out hby); have KIy := Lib.hid (Cell2.later KIx.out hby); have lKA0y := KAy.out.c0; have lKA1y := KAy.out.c1; have lKC0y := KCy.out.c0; have lKC1y := KCy.out.c1; have lKD0y := KDy.out.c0; have lKD1y := KDy.out.c1; have lKG0y := KGy.out.c0; have lKG1y := KGy.out.c1; have lKI0y := KIy.out.c0; have lKI1y := KIy.out.c1; clear hby))
  clear KA KAx KB KBx KC KCx KD KDx KG KGx KI KIx HB HBx lKA0 lKA1 lKB0 lKB1 lKC0 lKC1 lKD0 lKD1 lKG0 lKG1 lKI0 lKI1 lKA0x lKA1x lKA0y lKA1y lKC0x lKC1x lKC0y lKC1y lKD0x lKD1x lKD0y lKD1y lKG0x lKG1x lKG0y lKG1y lKI0x lKI1x lKI0y lKI1y
  have KA := KAy
  clear KAy
  have KB := KBy
  clear KBy
  have KC := KCy
  clear KCy
  have KD := KDy
  clear KDy
  have KG := KGy
  clear KGy
  have KI := KIy
  clear KIy
  have HB := HBy
  clear HBy
  have lKA0 := KA.out.c0
  have lKA1 := KA.out.c1
  have lKB0 := KB.out.c0
  have lKB1 := KB.out.c1
  have lKC0 := KC.out.c0
  have lKC1 := KC.out.c1
  have lKD0 := KD.out.c0
  have lKD1 := KD.out.c1
  have lKG0 := KG.out.c0
  have lKG1 := KG.out.c1
  have lKI0 := KI.out.c0
  have lKI1 := KI.out.c1
  go_wp2_with fail
  refine (H3.out _).mono ?_
  rintro e w' ⟨he, hb⟩
  subst he
  clear lKA0 lKA1 lKB0 lKB1 lKC0 lKC1 lKD0 lKD1 lKG0 lKG1 lKI0 lKI1
  have HB' := Lib.hid (Below.after HB.out hb)
  clear HB
  have HB := HB'
  clear HB'
  have KA' := Lib.hid (KA.out.later hb)
  clear KA
  have KA := KA'
  clear KA'
  have KB' := Lib.hid (KB.out.later hb)
  clear KB
  have KB := KB'
  clear KB'
  have KC' := Lib.hid (KC.out.later hb)
  clear KC
  have KC := KC'
  clear KC'
  have KD' := Lib.hid (KD.out.later hb)
  clear KD
  have KD := KD'
  clear KD'
  have KG' := Lib.hid (KG.out.later hb)
  clear KG
  have KG := KG'
  clear KG'
  have KI' := Lib.hid (KI.out.later hb)
  clear KI
  have KI := KI'
  clear KI'
  clear hb
  have fKC0 := KC.out.f0
  have fKC1 := KC.out.f1
  have oKC0 := KC.out.c0
  have oKC1 := KC.out.c1
  have KA' := Lib.hid (KA.out.setOther2 nKAKC.out (.int .i64 u1) (.int .i64 u2))
  have KB' := Lib.hid (KB.out.setOther2 nKBKC.out (.int .i64 u1) (.int .i64 u2))
  have KC' := Lib.hid (KC.out.set (.int .i64 u1) (.int .i64 u2))
  have KD' := Lib.hid (KD.out.setOther2 (Ne.symm nKCKD.out) (.int .i64 u1) (.int .i64 u2))
  have KG' := Lib.hid (KG.out.setOther2 (Ne.symm nKCKG.out) (.int .i64 u1) (.int .i64 u2))
  have KI' := Lib.hid (KI.out.setOther2 (Ne.symm nKCKI.out) (.int .i64 u1) (.int .i64 u2))
  have HB' := Lib.hid ((HB.out.setCell (p := ⟨gKC, 0, none⟩) (qKC.out) (.int .i64 u1)).setCell (p := ⟨gKC, 1, none⟩) (qKC.out) (.int .i64 u2))
  clear KA KB KC KD KG KI HB
  have KA := KA'
  clear KA'
  have KB := KB'
  clear KB'
  have KC := KC'
  clear KC'
  have KD := KD'
  clear KD'
  have KG := KG'
  clear KG'
  have KI := KI'
  clear KI'
  have HB := HB'
  clear HB'
  have lKA0 := KA.out.c0
  have lKA1 := KA.out.c1
  have lKB0 := KB.out.c0
  have lKB1 := KB.out.c1
  have lKC0 := KC.out.c0
  have lKC1 := KC.out.c1
  have lKD0 := KD.out.c0
  have lKD1 := KD.out.c1
  have lKG0 := KG.out.c0
  have lKG1 := KG.out.c1
  have lKI0 := KI.out.c0
  have lKI1 := KI.out.c1
  go_wp2_with fail
  clear fKC0 fKC1 oKC0 oKC1
  generalize ((w'.setCell ⟨gKC, 0, none⟩ (.int .i64 u1)).setCell ⟨gKC, 1, none⟩ (.int .i64 u2)) = vKC at *
  refine (R3.out _).mono ?_
  rintro e w' ⟨he, hb⟩
  subst he
  clear lKA0 lKA1 lKB0 lKB1 lKC0 lKC1 lKD0 lKD1 lKG0 lKG1 lKI0 lKI1
  have HB' := Lib.hid (Below.after HB.out hb)
  clear HB
  have HB := HB'
  clear HB'
  have KA' := Lib.hid (KA.out.later hb)
  clear KA
  have KA := KA'
  clear KA'
  have KB' := Lib.hid (KB.out.later hb)
  clear KB
  have KB := KB'
  clear KB'
  have KC' := Lib.hid (KC.out.later hb)
  clear KC
  have KC := KC'
  clear KC'
  have KD' := Lib.hid (KD.out.later hb)
  clear KD
  have KD := KD'
  clear KD'
  have KG' := Lib.hid (KG.out.later hb)
  clear KG
  have KG := KG'
  clear KG'
  have KI' := Lib.hid (KI.out.later hb)
  clear KI
  have KI := KI'
  clear KI'
  clear hb
  have fKD0 := KD.out.f0
  have fKD1 := KD.out.f1
  have oKD0 := KD.out.c0
  have oKD1 := KD.out.c1
  have KA' := Lib.hid (KA.out.setOther2 nKAKD.out (.int .i64 u1) (.int .i64 u2))
  have KB' := Lib.hid (KB.out.setOther2 nKBKD.out (.int .i64 u1) (.int .i64 u2))
  have KC' := Lib.hid (KC.out.setOther2 nKCKD.out (.int .i64 u1) (.int .i64 u2))
  have KD' := Lib.hid (KD.out.set (.int .i64 u1) (.int .i64 u2))
  have KG' := Lib.hid (KG.out.setOther2 (Ne.symm nKDKG.out) (.int .i64 u1) (.int .i64 u2))
  have KI' := Lib.hid (KI.out.setOther2 (Ne.symm nKDKI.out) (.int .i64 u1) (.int .i64 u2))
  have HB' := Lib.hid ((HB.out.setCell (p := ⟨gKD, 0, none⟩) (qKD.out) (.int .i64 u1)).setCell (p := ⟨gKD, 1, none⟩) (qKD.out) (.int .i64 u2))
  clear KA KB KC KD KG KI HB
  have KA := KA'
  clear KA'
  have KB := KB'
  clear KB'
  have KC := KC'
  clear KC'
  have KD := KD'
  clear KD'
  have KG := KG'
  clear KG'
  have KI := KI'
  clear KI'
  have HB := HB'
  clear HB'
  have lKA0 := KA.out.c0
  have lKA1 := KA.out.c1
  have lKB0 := KB.out.c0
  have lKB1 := KB.out.c1
  have lKC0 := KC.out.c0
  have lKC1 := KC.out.c1
  have lKD0 := KD.out.c0
  have lKD1 := KD.out.c1
  have lKG0 := KG.out.c0
  have lKG1 := KG.out.c1
  have lKI0 := KI.out.c0
  have lKI1 := KI.out.c1
  go_wp2_with fail
  clear fKD0 fKD1 oKD0 oKD1
  generalize ((w'.setCell ⟨gKD, 0, none⟩ (.int .i64 u1)).setCell ⟨gKD, 1, none⟩ (.int .i64 u2)) = vKD at *
  refine (H4.out _).mono ?_
  rintro e w' ⟨he, hb⟩
  subst he
  clear lKA0 lKA1 lKB0 lKB1 lKC0 lKC1 lKD0 lKD1 lKG0 lKG1 lKI0 lKI1
  have HB' := Lib.hid (Below.after HB.out hb)
  clear HB
  have HB := HB'
  clear HB'
  have KA' := Lib.hid (KA.out.later hb)
  clear KA
  have KA := KA'
  clear KA'
  have KB' := Lib.hid (KB.out.later hb)
  clear KB
  have KB := KB'
  clear KB'
  have KC' := Lib.hid (KC.out.later hb)
  clear KC
  have KC := KC'
  clear KC'
  have KD' := Lib.hid (KD.out.later hb)
  clear KD
  have KD := KD'
  clear KD'
  have KG' := Lib.hid (KG.out.later hb)
  clear KG
  have KG := KG'
  clear KG'
  have KI' := Lib.hid (KI.out.later hb)
  clear KI
  have KI := KI'
  clear KI'
  clear hb
  have fKG0 := KG.out.f0
  have fKG1 := KG.out.f1
  have oKG0 := KG.out.c0
  have oKG1 := KG.out.c1
  have KA' := Lib.hid (KA.out.setOther2 nKAKG.out (.int .i64 x1) (.int .i64 x2))
  have KB' := Lib.hid (KB.out.setOther2 nKBKG.out (.int .i64 x1) (.int .i64 x2))
  have KC' := Lib.hid (KC.out.setOther2 nKCKG.out (.int .i64 x1) (.int .i64 x2))
  have KD' := Lib.hid (KD.out.setOther2 nKDKG.out (.int .i64 x1) (.int .i64 x2))
  have KG' := Lib.hid (KG.out.set (.int .i64 x1) (.int .i64 x2))
  have KI' := Lib.hid (KI.out.setOther2 (Ne.symm nKGKI.out) (.int .i64 x1) (.int .i64 x2))
  have HB' := Lib.hid ((HB.out.setCell (p := ⟨gKG, 0, none⟩) (qKG.out) (.int .i64 x1)).setCell (p := ⟨gKG, 1, none⟩) (qKG.out) (.int .i64 x2))
  clear KA KB KC KD KG KI HB
  have KA := KA'
  clear KA'
  have KB := KB'
  clear KB'
  have KC := KC'
  clear KC'
  have KD := KD'
  clear KD'
  have KG := KG'
  clear KG'
  have KI := KI'
  clear KI'
  have HB := HB'
  clear HB'
  have lKA0 := KA.out.c0
  have lKA1 := KA.out.c1
  have lKB0 := KB.out.c0
  have lKB1 := KB.out.c1
  have lKC0 := KC.out.c0
  have lKC1 := KC.out.c1
  have lKD0 := KD.out.c0
  have lKD1 := KD.out.c1
  have lKG0 := KG.out.c0
  have lKG1 := KG.out.c1
  have lKI0 := KI.out.c0
  have lKI1 := KI.out.c1
  go_wp2_with fail
  clear fKG0 fKG1 oKG0 oKG1
  generalize ((w'.setCell ⟨gKG, 0, none⟩ (.int .i64 x1)).setCell ⟨gKG, 1, none⟩ (.int .i64 x2)) = vKG at *
  refine (R4.out _).mono ?_
  rintro e w' ⟨he, hb⟩
  subst he
  clear lKA0 lKA1 lKB0 lKB1 lKC0 lKC1 lKD0 lKD1 lKG0 lKG1 lKI0 lKI1
  have HB' := Lib.hid (Below.after HB.out hb)
  clear HB
  have HB := HB'
  clear HB'
  have KA' := Lib.hid (KA.out.later hb)
  clear KA
  have KA := KA'
  clear KA'
  have KB' := Lib.hid (KB.out.later hb)
  clear KB
  have KB := KB'
  clear KB'
  have KC' := Lib.hid (KC.out.later hb)
  clear KC
  have KC := KC'
  clear KC'
  have KD' := Lib.hid (KD.out.later hb)
  clear KD
  have KD := KD'
  clear KD'
  have KG' := Lib.hid (KG.out.later hb)
  clear KG
  have KG := KG'
  clear KG'
  have KI' := Lib.hid (KI.out.later hb)
  clear KI
  have KI := KI'
  clear KI'
  clear hb
  have fKI0 := KI.out.f0
  have fKI1 := KI.out.f1
  have oKI0 := KI.out.c0
  have oKI1 := KI.out.c1
  have KA' := Lib.hid (KA.out.setOther2 nKAKI.out (.int .i64 x1) (.int .i64 x2))
  have KB' := Lib.hid (KB.out.setOther2 nKBKI.out (.int .i64 x1) (.int .i64 x2))
  have KC' := Lib.hid (KC.out.setOther2 nKCKI.out (.int .i64 x1) (.int .i64 x2))
  have KD' := Lib.hid (KD.out.setOther2 nKDKI.out (.int .i64 x1) (.int .i64 x2))
  have KG' := Lib.hid (KG.out.setOther2 nKGKI.out (.int .i64 x1) (.int .i64 x2))
  have KI' := Lib.hid (KI.out.set (.int .i64 x1) (.int .i64 x2))
  have HB' := Lib.hid ((HB.out.setCell (p := ⟨gKI, 0, none⟩) (qKI.out) (.int .i64 x1)).setCell (p := ⟨gKI, 1, none⟩) (qKI.out) (.int .i64 x2))
  clear KA KB KC KD KG KI HB
  have KA := KA'
  clear KA'
  have KB := KB'
  clear KB'
  have KC := KC'
  clear KC'
  have KD := KD'
  clear KD'
  have KG := KG'
  clear KG'
  have KI := KI'
  clear KI'
  have HB := HB'
  clear HB'
  have lKA0 := KA.out.c0
  have lKA1 := KA.out.c1
  have lKB0 := KB.out.c0
  have lKB1 := KB.out.c1
  have lKC0 := KC.out.c0
  have lKC1 := KC.out.c1
  have lKD0 := KD.out.c0
  have lKD1 := KD.out.c1
  have lKG0 := KG.out.c0
  have lKG1 := KG.out.c1
  have lKI0 := KI.out.c0
  have lKI1 := KI.out.c1
  go_wp2_with fail
  clear fKI0 fKI1 oKI0 oKI1
  generalize ((w'.setCell ⟨gKI, 0, none⟩ (.int .i64 x1)).setCell ⟨gKI, 1, none⟩ (.int .i64 x2)) = vKI at *
  refine (awake_any _).mono ?_
  rintro e w' ⟨he, hb⟩
  subst he
  clear lKA0 lKA1 lKB0 lKB1 lKC0 lKC1 lKD0 lKD1 lKG0 lKG1 lKI0 lKI1
  have HB' := Lib.hid (Below.after HB.out hb)
  clear hb
  go_wp2_with fail
  go_ret
  exact ⟨rfl, HB'.out⟩
theorem lawSums_any (a b : Int × Int) (w : World) (ha : I64 a.1 ∧ I64 a.2) (hb : I64 b.1 ∧ I64 b.2) :
    Calls Try.prog 3 #[ivV a, ivV b] w fun e w' => e = .returned (.bool true) ∧ Below w.heap.size w w' := by
  have r1 := fun W => rAdd_any a b W
  have r2 := fun W => rSub_any a b W
  have r3 := fun W => rMul_any a b W
  have r4 := fun W => rDiv_any a b W
  rw [two_add] at r1
  rw [two_sub] at r2
  rw [two_mul] at r3
  rw [two_div] at r4
  exact sums_walk a.1 a.2 b.1 b.2 (addW a b).1.1 (addW a b).1.2 (addW a b).2 (subW a b).1.1 (subW a b).1.2 (subW a b).2 (mulW a b).1.1 (mulW a b).1.2 (mulW a b).2 (divE a b).1.1 (divE a b).1.2 (divE a b).2 (examI [a]) w
    (fun W => add_any a b W ha hb) r1 (fun W => sub_any a b W ha hb) r2 (fun W => mul_any a b W ha hb) r3 (fun W => div_any a b W ha hb) r4 (fun W => check_any a W ha) (fun W => rcheck_any a W)
end Go.Proofs.Ytmmgbofhbnflkaa
