import Derived.Test.YtmmgbofhbnflkaaI13
import Derived.Test.YtmmgbofhbnflkaaI15
namespace Go.Proofs.Ytmmgbofhbnflkaa
open Go.RowKit

theorem examI_swap (a b : Int × Int) : examI [a, b] = examI [b, a] := by
  unfold examI
  simp only [List.all_cons, List.all_nil, Bool.and_true]
  rw [Bool.and_comm (okB a.1 && okB a.2), Bool.and_comm (decide (a.1 ≤ a.2))]

set_option maxRecDepth 100000 in
set_option maxHeartbeats 4000000 in
theorem sets_walk (a1 a2 b1 b2 h1 h2 he m1 m2 me k l o p : Int) (w : World)
    (HU : ∀ W, Calls Try.prog 31 #[(.agg #[.int .i64 a1, .int .i64 a2]), (.agg #[.int .i64 b1, .int .i64 b2])] W fun e w' => e = .returned (.tuple #[.agg #[.int .i64 h1, .int .i64 h2], .int .i64 he]) ∧ Below W.heap.size W w')
    (RU : ∀ W, Calls Try.prog 32 #[(.agg #[.int .i64 a1, .int .i64 a2]), (.agg #[.int .i64 b1, .int .i64 b2])] W fun e w' => e = .returned (.tuple #[.agg #[.int .i64 h1, .int .i64 h2], .int .i64 he]) ∧ Below W.heap.size W w')
    (HM : ∀ W, Calls Try.prog 33 #[(.agg #[.int .i64 a1, .int .i64 a2]), (.agg #[.int .i64 b1, .int .i64 b2])] W fun e w' => e = .returned (.tuple #[.agg #[.int .i64 m1, .int .i64 m2], .int .i64 me]) ∧ Below W.heap.size W w')
    (RM : ∀ W, Calls Try.prog 34 #[(.agg #[.int .i64 a1, .int .i64 a2]), (.agg #[.int .i64 b1, .int .i64 b2])] W fun e w' => e = .returned (.tuple #[.agg #[.int .i64 m1, .int .i64 m2], .int .i64 me]) ∧ Below W.heap.size W w')
    (HO : ∀ W, Calls Try.prog 35 #[(.agg #[.int .i64 a1, .int .i64 a2]), (.agg #[.int .i64 b1, .int .i64 b2])] W fun e w' => e = .returned (.tuple #[.int .i64 k, .int .i64 l]) ∧ Below W.heap.size W w')
    (RO : ∀ W, Calls Try.prog 36 #[(.agg #[.int .i64 a1, .int .i64 a2]), (.agg #[.int .i64 b1, .int .i64 b2])] W fun e w' => e = .returned (.tuple #[.int .i64 k, .int .i64 l]) ∧ Below W.heap.size W w')
    (HP : ∀ W, Calls Try.prog 35 #[(.agg #[.int .i64 b1, .int .i64 b2]), (.agg #[.int .i64 a1, .int .i64 a2])] W fun e w' => e = .returned (.tuple #[.int .i64 o, .int .i64 p]) ∧ Below W.heap.size W w')
    (hf : l ≠ 0 ∨ (l = 0 ∧ p = 0 ∧ ((k = 0 ∧ o = 0 ∧ me = 0) ∨ (k = 1 ∧ o = -1 ∧ me = 4) ∨ (k = -1 ∧ o = 1 ∧ me = 4)))) :
    Calls Try.prog 6 #[(.agg #[.int .i64 a1, .int .i64 a2]), (.agg #[.int .i64 b1, .int .i64 b2])] w fun e w' => e = .returned (.bool true) ∧ Below w.heap.size w w' := by
  have HU := Lib.hid HU
  have RU := Lib.hid RU
  have HM := Lib.hid HM
  have RM := Lib.hid RM
  have HO := Lib.hid HO
  have RO := Lib.hid RO
  have HP := Lib.hid HP
  rcases hf with hl | ⟨rfl, rfl, ⟨rfl, rfl, rfl⟩ | ⟨rfl, rfl, rfl⟩ | ⟨rfl, rfl, rfl⟩⟩
  · have q1 : (l == 0) = false := by simp [hl]
    have q2 : (l != 0) = true := by simp [hl]
    clear hl
    go_enter Try.func6, Try.ntmps6
    have KA := Lib.hid ((Cell2.new w (.int .i64 a1) (.int .i64 a2) 23).alloc (.cells #[.int .i64 b1, .int .i64 b2] 23))
    have kb := Cell2.new (w.alloc (.cells #[.int .i64 a1, .int .i64 a2] 23)) (.int .i64 b1) (.int .i64 b2) 23
    rw [show (w.alloc (.cells #[.int .i64 a1, .int .i64 a2] 23)).heap.size = w.heap.size + 1 by simp] at kb
    have KB := Lib.hid kb
    clear kb
    have HB := Lib.hid (below_alloc2 w (.cells #[.int .i64 a1, .int .i64 a2] 23) (.cells #[.int .i64 b1, .int .i64 b2] 23))
    go_wp2_with fail
    refine (HU.out _).mono ?_
    rintro e w' ⟨he, hb⟩
    subst he
    have HB' := Lib.hid (Below.after HB.out hb)
    clear HB
    have HB := HB'
    clear HB'
    have KA' := Lib.hid (KA.out.later hb)
    clear KA
    have KA := KA'
    clear KA'
    have KB' := Lib.hid (KB.out.later hb)
    clear KB
    have KB := KB'
    clear KB'
    clear hb
    have hb := below_alloc w' (.cells #[.int .i64 h1, .int .i64 h2] 23)
    have HB' := Lib.hid (Below.after HB.out hb)
    clear HB
    have HB := HB'
    clear HB'
    have KA' := Lib.hid (KA.out.later hb)
    clear KA
    have KA := KA'
    clear KA'
    have KB' := Lib.hid (KB.out.later hb)
    clear KB
    have KB := KB'
    clear KB'
    clear hb
    have KC := Lib.hid (Cell2.new w' (.int .i64 h1) (.int .i64 h2) 23)
    have lKA0 := KA.out.c0
    have lKA1 := KA.out.c1
    have lKB0 := KB.out.c0
    have lKB1 := KB.out.c1
    have lKC0 := KC.out.c0
    have lKC1 := KC.out.c1
    go_wp2_with fail
    generalize w'.heap.size = gKC at *
    generalize w'.alloc (.cells #[.int .i64 h1, .int .i64 h2] 23) = vKC at *
    refine (RU.out _).mono ?_
    rintro e w' ⟨he, hb⟩
    subst he
    clear lKA0 lKA1 lKB0 lKB1 lKC0 lKC1
    have HB' := Lib.hid (Below.after HB.out hb)
    clear HB
    have HB := HB'
    clear HB'
    have KA' := Lib.hid (KA.out.later hb)
    clear KA
    have KA := KA'
    clear KA'
    have KB' := Lib.hid (KB.out.later hb)
    clear KB
    have KB := KB'
    clear KB'
    have KC' := Lib.hid (KC.out.later hb)
    clear KC
    have KC := KC'
    clear KC'
    clear hb
    have hb := below_alloc w' (.cells #[.int .i64 h1, .int .i64 h2] 23)
    have HB' := Lib.hid (Below.after HB.out hb)
    clear HB
    have HB := HB'
    clear HB'
    have KA' := Lib.hid (KA.out.later hb)
    clear KA
    have KA := KA'
    clear KA'
    have KB' := Lib.hid (KB.out.later hb)
    clear KB
    have KB := KB'
    clear KB'
    have KC' := Lib.hid (KC.out.later hb)
    clear KC
    have KC := KC'
    clear KC'
    clear hb
    have KD := Lib.hid (Cell2.new w' (.int .i64 h1) (.int .i64 h2) 23)
    have lKA0 := KA.out.c0
    have lKA1 := KA.out.c1
    have lKB0 := KB.out.c0
    have lKB1 := KB.out.c1
    have lKC0 := KC.out.c0
    have lKC1 := KC.out.c1
    have lKD0 := KD.out.c0
    have lKD1 := KD.out.c1
    go_wp2_with fail
    generalize w'.heap.size = gKD at *
    generalize w'.alloc (.cells #[.int .i64 h1, .int .i64 h2] 23) = vKD at *
    refine (HM.out _).mono ?_
    rintro e w' ⟨he, hb⟩
    subst he
    clear lKA0 lKA1 lKB0 lKB1 lKC0 lKC1 lKD0 lKD1
    have HB' := Lib.hid (Below.after HB.out hb)
    clear HB
    have HB := HB'
    clear HB'
    have KA' := Lib.hid (KA.out.later hb)
    clear KA
    have KA := KA'
    clear KA'
    have KB' := Lib.hid (KB.out.later hb)
    clear KB
    have KB := KB'
    clear KB'
    have KC' := Lib.hid (KC.out.later hb)
    clear KC
    have KC := KC'
    clear KC'
    have KD' := Lib.hid (KD.out.later hb)
    clear KD
    have KD := KD'
    clear KD'
    clear hb
    have hb := below_alloc w' (.cells #[.int .i64 m1, .int .i64 m2] 23)
    have HB' := Lib.hid (Below.after HB.out hb)
    clear HB
    have HB := HB'
    clear HB'
    have KA' := Lib.hid (KA.out.later hb)
    clear KA
    have KA := KA'
    clear KA'
    have KB' := Lib.hid (KB.out.later hb)
    clear KB
    have KB := KB'
    clear KB'
    have KC' := Lib.hid (KC.out.later hb)
    clear KC
    have KC := KC'
    clear KC'
    have KD' := Lib.hid (KD.out.later hb)
    clear KD
    have KD := KD'
    clear KD'
    clear hb
    have KG := Lib.hid (Cell2.new w' (.int .i64 m1) (.int .i64 m2) 23)
    have lKA0 := KA.out.c0
    have lKA1 := KA.out.c1
    have lKB0 := KB.out.c0
    have lKB1 := KB.out.c1
    have lKC0 := KC.out.c0
    have lKC1 := KC.out.c1
    have lKD0 := KD.out.c0
    have lKD1 := KD.out.c1
    have lKG0 := KG.out.c0
    have lKG1 := KG.out.c1
    go_wp2_with fail
    generalize w'.heap.size = gKG at *
    generalize w'.alloc (.cells #[.int .i64 m1, .int .i64 m2] 23) = vKG at *
    refine (RM.out _).mono ?_
    rintro e w' ⟨he, hb⟩
    subst he
    clear lKA0 lKA1 lKB0 lKB1 lKC0 lKC1 lKD0 lKD1 lKG0 lKG1
    have HB' := Lib.hid (Below.after HB.out hb)
    clear HB
    have HB := HB'
    clear HB'
    have KA' := Lib.hid (KA.out.later hb)
    clear KA
    have KA := KA'
    clear KA'
    have KB' := Lib.hid (KB.out.later hb)
    clear KB
    have KB := KB'
    clear KB'
    have KC' := Lib.hid (KC.out.later hb)
    clear KC
    have KC := KC'
    clear KC'
    have KD' := Lib.hid (KD.out.later hb)
    clear KD
    have KD := KD'
    clear KD'
    have KG' := Lib.hid (KG.out.later hb)
    clear KG
    have KG := KG'
    clear KG'
    clear hb
    have hb := below_alloc w' (.cells #[.int .i64 m1, .int .i64 m2] 23)
    have HB' := Lib.hid (Below.after HB.out hb)
    clear HB
    have HB := HB'
    clear HB'
    have KA' := Lib.hid (KA.out.later hb)
    clear KA
    have KA := KA'
    clear KA'
    have KB' := Lib.hid (KB.out.later hb)
    clear KB
    have KB := KB'
    clear KB'
    have KC' := Lib.hid (KC.out.later hb)
    clear KC
    have KC := KC'
    clear KC'
    have KD' := Lib.hid (KD.out.later hb)
    clear KD
    have KD := KD'
    clear KD'
    have KG' := Lib.hid (KG.out.later hb)
    clear KG
    have KG := KG'
    clear KG'
    clear hb
    have KI := Lib.hid (Cell2.new w' (.int .i64 m1) (.int .i64 m2) 23)
    have lKA0 := KA.out.c0
    have lKA1 := KA.out.c1
    have lKB0 := KB.out.c0
    have lKB1 := KB.out.c1
    have lKC0 := KC.out.c0
    have lKC1 := KC.out.c1
    have lKD0 := KD.out.c0
    have lKD1 := KD.out.c1
    have lKG0 := KG.out.c0
    have lKG1 := KG.out.c1
    have lKI0 := KI.out.c0
    have lKI1 := KI.out.c1
    go_wp2_with fail
    generalize w'.heap.size = gKI at *
    generalize w'.alloc (.cells #[.int .i64 m1, .int .i64 m2] 23) = vKI at *
    refine (HO.out _).mono ?_
    rintro e w' ⟨he, hb⟩
    subst he
    clear lKA0 lKA1 lKB0 lKB1 lKC0 lKC1 lKD0 lKD1 lKG0 lKG1 lKI0 lKI1
    have HB' := Lib.hid (Below.after HB.out hb)
    clear HB
    have HB := HB'
    clear HB'
    have KA' := Lib.hid (KA.out.later hb)
    clear KA
    have KA := KA'
    clear KA'
    have KB' := Lib.hid (KB.out.later hb)
    clear KB
    have KB := KB'
    clear KB'
    have KC' := Lib.hid (KC.out.later hb)
    clear KC
    have KC := KC'
    clear KC'
    have KD' := Lib.hid (KD.out.later hb)
    clear KD
    have KD := KD'
    clear KD'
    have KG' := Lib.hid (KG.out.later hb)
    clear KG
    have KG := KG'
    clear KG'
    have KI' := Lib.hid (KI.out.later hb)
    clear KI
    have KI := KI'
    clear KI'
    clear hb
    have lKA0 := KA.out.c0
    have lKA1 := KA.out.c1
    have lKB0 := KB.out.c0
    have lKB1 := KB.out.c1
    have lKC0 := KC.out.c0
    have lKC1 := KC.out.c1
    have lKD0 := KD.out.c0
    have lKD1 := KD.out.c1
    have lKG0 := KG.out.c0
    have lKG1 := KG.out.c1
    have lKI0 := KI.out.c0
    have lKI1 := KI.out.c1
    go_wp2_with fail
    refine (RO.out _).mono ?_
    rintro e w' ⟨he, hb⟩
    subst he
    clear lKA0 lKA1 lKB0 lKB1 lKC0 lKC1 lKD0 lKD1 lKG0 lKG1 lKI0 lKI1
    have HB' := Lib.hid (Below.after HB.out hb)
    clear HB
    have HB := HB'
    clear HB'
    have KA' := Lib.hid (KA.out.later hb)
    clear KA
    have KA := KA'
    clear KA'
    have KB' := Lib.hid (KB.out.later hb)
    clear KB
    have KB := KB'
    clear KB'
    have KC' := Lib.hid (KC.out.later hb)
    clear KC
    have KC := KC'
    clear KC'
    have KD' := Lib.hid (KD.out.later hb)
    clear KD
    have KD := KD'
    clear KD'
    have KG' := Lib.hid (KG.out.later hb)
    clear KG
    have KG := KG'
    clear KG'
    have KI' := Lib.hid (KI.out.later hb)
    clear KI
    have KI := KI'
    clear KI'
    clear hb
    have lKA0 := KA.out.c0
    have lKA1 := KA.out.c1
    have lKB0 := KB.out.c0
    have lKB1 := KB.out.c1
    have lKC0 := KC.out.c0
    have lKC1 := KC.out.c1
    have lKD0 := KD.out.c0
    have lKD1 := KD.out.c1
    have lKG0 := KG.out.c0
    have lKG1 := KG.out.c1
    have lKI0 := KI.out.c0
    have lKI1 := KI.out.c1
    go_wp2_with fail
    refine (HP.out _).mono ?_
    rintro e w' ⟨he, hb⟩
    subst he
    clear lKA0 lKA1 lKB0 lKB1 lKC0 lKC1 lKD0 lKD1 lKG0 lKG1 lKI0 lKI1
    have HB' := Lib.hid (Below.after HB.out hb)
    clear HB
    have HB := HB'
    clear HB'
    have KA' := Lib.hid (KA.out.later hb)
    clear KA
    have KA := KA'
    clear KA'
    have KB' := Lib.hid (KB.out.later hb)
    clear KB
    have KB := KB'
    clear KB'
    have KC' := Lib.hid (KC.out.later hb)
    clear KC
    have KC := KC'
    clear KC'
    have KD' := Lib.hid (KD.out.later hb)
    clear KD
    have KD := KD'
    clear KD'
    have KG' := Lib.hid (KG.out.later hb)
    clear KG
    have KG := KG'
    clear KG'
    have KI' := Lib.hid (KI.out.later hb)
    clear KI
    have KI := KI'
    clear KI'
    clear hb
    have lKA0 := KA.out.c0
    have lKA1 := KA.out.c1
    have lKB0 := KB.out.c0
    have lKB1 := KB.out.c1
    have lKC0 := KC.out.c0
    have lKC1 := KC.out.c1
    have lKD0 := KD.out.c0
    have lKD1 := KD.out.c1
    have lKG0 := KG.out.c0
    have lKG1 := KG.out.c1
    have lKI0 := KI.out.c0
    have lKI1 := KI.out.c1
    go_wp2_with fail
    refine (awake_any _).mono ?_
    rintro e w' ⟨he, hb⟩
    subst he
    clear lKA0 lKA1 lKB0 lKB1 lKC0 lKC1 lKD0 lKD1 lKG0 lKG1 lKI0 lKI1
    have HB' := Lib.hid (Below.after HB.out hb)
    clear hb
    go_wp2_with fail
    go_ret
    exact ⟨rfl, HB'.out⟩
  · go_enter Try.func6, Try.ntmps6
    have KA := Lib.hid ((Cell2.new w (.int .i64 a1) (.int .i64 a2) 23).alloc (.cells #[.int .i64 b1, .int .i64 b2] 23))
    have kb := Cell2.new (w.alloc (.cells #[.int .i64 a1, .int .i64 a2] 23)) (.int .i64 b1) (.int .i64 b2) 23
    rw [show (w.alloc (.cells #[.int .i64 a1, .int .i64 a2] 23)).heap.size = w.heap.size + 1 by simp] at kb
    have KB := Lib.hid kb
    clear kb
    have HB := Lib.hid (below_alloc2 w (.cells #[.int .i64 a1, .int .i64 a2] 23) (.cells #[.int .i64 b1, .int .i64 b2] 23))
    go_wp2_with fail
    refine (HU.out _).mono ?_
    rintro e w' ⟨he, hb⟩
    subst he
    have HB' := Lib.hid (Below.after HB.out hb)
    clear HB
    have HB := HB'
    clear HB'
    have KA' := Lib.hid (KA.out.later hb)
    clear KA
    have KA := KA'
    clear KA'
    have KB' := Lib.hid (KB.out.later hb)
    clear KB
    have KB := KB'
    clear KB'
    clear hb
    have hb := below_alloc w' (.cells #[.int .i64 h1, .int .i64 h2] 23)
    have HB' := Lib.hid (Below.after HB.out hb)
    clear HB
    have HB := HB'
    clear HB'
    have KA' := Lib.hid (KA.out.later hb)
    clear KA
    have KA := KA'
    clear KA'
    have KB' := Lib.hid (KB.out.later hb)
    clear KB
    have KB := KB'
    clear KB'
    clear hb
    have KC := Lib.hid (Cell2.new w' (.int .i64 h1) (.int .i64 h2) 23)
    have lKA0 := KA.out.c0
    have lKA1 := KA.out.c1
    have lKB0 := KB.out.c0
    have lKB1 := KB.out.c1
    have lKC0 := KC.out.c0
    have lKC1 := KC.out.c1
    go_wp2_with fail
    generalize w'.heap.size = gKC at *
    generalize w'.alloc (.cells #[.int .i64 h1, .int .i64 h2] 23) = vKC at *
    refine (RU.out _).mono ?_
    rintro e w' ⟨he, hb⟩
    subst he
    clear lKA0 lKA1 lKB0 lKB1 lKC0 lKC1
    have HB' := Lib.hid (Below.after HB.out hb)
    clear HB
    have HB := HB'
    clear HB'
    have KA' := Lib.hid (KA.out.later hb)
    clear KA
    have KA := KA'
    clear KA'
    have KB' := Lib.hid (KB.out.later hb)
    clear KB
    have KB := KB'
    clear KB'
    have KC' := Lib.hid (KC.out.later hb)
    clear KC
    have KC := KC'
    clear KC'
    clear hb
    have hb := below_alloc w' (.cells #[.int .i64 h1, .int .i64 h2] 23)
    have HB' := Lib.hid (Below.after HB.out hb)
    clear HB
    have HB := HB'
    clear HB'
    have KA' := Lib.hid (KA.out.later hb)
    clear KA
    have KA := KA'
    clear KA'
    have KB' := Lib.hid (KB.out.later hb)
    clear KB
    have KB := KB'
    clear KB'
    have KC' := Lib.hid (KC.out.later hb)
    clear KC
    have KC := KC'
    clear KC'
    clear hb
    have KD := Lib.hid (Cell2.new w' (.int .i64 h1) (.int .i64 h2) 23)
    have lKA0 := KA.out.c0
    have lKA1 := KA.out.c1
    have lKB0 := KB.out.c0
    have lKB1 := KB.out.c1
    have lKC0 := KC.out.c0
    have lKC1 := KC.out.c1
    have lKD0 := KD.out.c0
    have lKD1 := KD.out.c1
    go_wp2_with fail
    generalize w'.heap.size = gKD at *
    generalize w'.alloc (.cells #[.int .i64 h1, .int .i64 h2] 23) = vKD at *
    refine (HM.out _).mono ?_
    rintro e w' ⟨he, hb⟩
    subst he
    clear lKA0 lKA1 lKB0 lKB1 lKC0 lKC1 lKD0 lKD1
    have HB' := Lib.hid (Below.after HB.out hb)
    clear HB
    have HB := HB'
    clear HB'
    have KA' := Lib.hid (KA.out.later hb)
    clear KA
    have KA := KA'
    clear KA'
    have KB' := Lib.hid (KB.out.later hb)
    clear KB
    have KB := KB'
    clear KB'
    have KC' := Lib.hid (KC.out.later hb)
    clear KC
    have KC := KC'
    clear KC'
    have KD' := Lib.hid (KD.out.later hb)
    clear KD
    have KD := KD'
    clear KD'
    clear hb
    have hb := below_alloc w' (.cells #[.int .i64 m1, .int .i64 m2] 23)
    have HB' := Lib.hid (Below.after HB.out hb)
    clear HB
    have HB := HB'
    clear HB'
    have KA' := Lib.hid (KA.out.later hb)
    clear KA
    have KA := KA'
    clear KA'
    have KB' := Lib.hid (KB.out.later hb)
    clear KB
    have KB := KB'
    clear KB'
    have KC' := Lib.hid (KC.out.later hb)
    clear KC
    have KC := KC'
    clear KC'
    have KD' := Lib.hid (KD.out.later hb)
    clear KD
    have KD := KD'
    clear KD'
    clear hb
    have KG := Lib.hid (Cell2.new w' (.int .i64 m1) (.int .i64 m2) 23)
    have lKA0 := KA.out.c0
    have lKA1 := KA.out.c1
    have lKB0 := KB.out.c0
    have lKB1 := KB.out.c1
    have lKC0 := KC.out.c0
    have lKC1 := KC.out.c1
    have lKD0 := KD.out.c0
    have lKD1 := KD.out.c1
    have lKG0 := KG.out.c0
    have lKG1 := KG.out.c1
    go_wp2_with fail
    generalize w'.heap.size = gKG at *
    generalize w'.alloc (.cells #[.int .i64 m1, .int .i64 m2] 23) = vKG at *
    refine (RM.out _).mono ?_
    rintro e w' ⟨he, hb⟩
    subst he
    clear lKA0 lKA1 lKB0 lKB1 lKC0 lKC1 lKD0 lKD1 lKG0 lKG1
    have HB' := Lib.hid (Below.after HB.out hb)
    clear HB
    have HB := HB'
    clear HB'
    have KA' := Lib.hid (KA.out.later hb)
    clear KA
    have KA := KA'
    clear KA'
    have KB' := Lib.hid (KB.out.later hb)
    clear KB
    have KB := KB'
    clear KB'
    have KC' := Lib.hid (KC.out.later hb)
    clear KC
    have KC := KC'
    clear KC'
    have KD' := Lib.hid (KD.out.later hb)
    clear KD
    have KD := KD'
    clear KD'
    have KG' := Lib.hid (KG.out.later hb)
    clear KG
    have KG := KG'
    clear KG'
    clear hb
    have hb := below_alloc w' (.cells #[.int .i64 m1, .int .i64 m2] 23)
    have HB' := Lib.hid (Below.after HB.out hb)
    clear HB
    have HB := HB'
    clear HB'
    have KA' := Lib.hid (KA.out.later hb)
    clear KA
    have KA := KA'
    clear KA'
    have KB' := Lib.hid (KB.out.later hb)
    clear KB
    have KB := KB'
    clear KB'
    have KC' := Lib.hid (KC.out.later hb)
    clear KC
    have KC := KC'
    clear KC'
    have KD' := Lib.hid (KD.out.later hb)
    clear KD
    have KD := KD'
    clear KD'
    have KG' := Lib.hid (KG.out.later hb)
    clear KG
    have KG := KG'
    clear KG'
    clear hb
    have KI := Lib.hid (Cell2.new w' (.int .i64 m1) (.int .i64 m2) 23)
    have lKA0 := KA.out.c0
    have lKA1 := KA.out.c1
    have lKB0 := KB.out.c0
    have lKB1 := KB.out.c1
    have lKC0 := KC.out.c0
    have lKC1 := KC.out.c1
    have lKD0 := KD.out.c0
    have lKD1 := KD.out.c1
    have lKG0 := KG.out.c0
    have lKG1 := KG.out.c1
    have lKI0 := KI.out.c0
    have lKI1 := KI.out.c1
    go_wp2_with fail
    generalize w'.heap.size = gKI at *
    generalize w'.alloc (.cells #[.int .i64 m1, .int .i64 m2] 23) = vKI at *
    refine (HO.out _).mono ?_
    rintro e w' ⟨he, hb⟩
    subst he
    clear lKA0 lKA1 lKB0 lKB1 lKC0 lKC1 lKD0 lKD1 lKG0 lKG1 lKI0 lKI1
    have HB' := Lib.hid (Below.after HB.out hb)
    clear HB
    have HB := HB'
    clear HB'
    have KA' := Lib.hid (KA.out.later hb)
    clear KA
    have KA := KA'
    clear KA'
    have KB' := Lib.hid (KB.out.later hb)
    clear KB
    have KB := KB'
    clear KB'
    have KC' := Lib.hid (KC.out.later hb)
    clear KC
    have KC := KC'
    clear KC'
    have KD' := Lib.hid (KD.out.later hb)
    clear KD
    have KD := KD'
    clear KD'
    have KG' := Lib.hid (KG.out.later hb)
    clear KG
    have KG := KG'
    clear KG'
    have KI' := Lib.hid (KI.out.later hb)
    clear KI
    have KI := KI'
    clear KI'
    clear hb
    have lKA0 := KA.out.c0
    have lKA1 := KA.out.c1
    have lKB0 := KB.out.c0
    have lKB1 := KB.out.c1
    have lKC0 := KC.out.c0
    have lKC1 := KC.out.c1
    have lKD0 := KD.out.c0
    have lKD1 := KD.out.c1
    have lKG0 := KG.out.c0
    have lKG1 := KG.out.c1
    have lKI0 := KI.out.c0
    have lKI1 := KI.out.c1
    go_wp2_with fail
    refine (RO.out _).mono ?_
    rintro e w' ⟨he, hb⟩
    subst he
    clear lKA0 lKA1 lKB0 lKB1 lKC0 lKC1 lKD0 lKD1 lKG0 lKG1 lKI0 lKI1
    have HB' := Lib.hid (Below.after HB.out hb)
    clear HB
    have HB := HB'
    clear HB'
    have KA' := Lib.hid (KA.out.later hb)
    clear KA
    have KA := KA'
    clear KA'
    have KB' := Lib.hid (KB.out.later hb)
    clear KB
    have KB := KB'
    clear KB'
    have KC' := Lib.hid (KC.out.later hb)
    clear KC
    have KC := KC'
    clear KC'
    have KD' := Lib.hid (KD.out.later hb)
    clear KD
    have KD := KD'
    clear KD'
    have KG' := Lib.hid (KG.out.later hb)
    clear KG
    have KG := KG'
    clear KG'
    have KI' := Lib.hid (KI.out.later hb)
    clear KI
    have KI := KI'
    clear KI'
    clear hb
    have lKA0 := KA.out.c0
    have lKA1 := KA.out.c1
    have lKB0 := KB.out.c0
    have lKB1 := KB.out.c1
    have lKC0 := KC.out.c0
    have lKC1 := KC.out.c1
    have lKD0 := KD.out.c0
    have lKD1 := KD.out.c1
    have lKG0 := KG.out.c0
    have lKG1 := KG.out.c1
    have lKI0 := KI.out.c0
    have lKI1 := KI.out.c1
    go_wp2_with fail
    refine (HP.out _).mono ?_
    rintro e w' ⟨he, hb⟩
    subst he
    clear lKA0 lKA1 lKB0 lKB1 lKC0 lKC1 lKD0 lKD1 lKG0 lKG1 lKI0 lKI1
    have HB' := Lib.hid (Below.after HB.out hb)
    clear HB
    have HB := HB'
    clear HB'
    have KA' := Lib.hid (KA.out.later hb)
    clear KA
    have KA := KA'
    clear KA'
    have KB' := Lib.hid (KB.out.later hb)
    clear KB
    have KB := KB'
    clear KB'
    have KC' := Lib.hid (KC.out.later hb)
    clear KC
    have KC := KC'
    clear KC'
    have KD' := Lib.hid (KD.out.later hb)
    clear KD
    have KD := KD'
    clear KD'
    have KG' := Lib.hid (KG.out.later hb)
    clear KG
    have KG := KG'
    clear KG'
    have KI' := Lib.hid (KI.out.later hb)
    clear KI
    have KI := KI'
    clear KI'
    clear hb
    have lKA0 := KA.out.c0
    have lKA1 := KA.out.c1
    have lKB0 := KB.out.c0
    have lKB1 := KB.out.c1
    have lKC0 := KC.out.c0
    have lKC1 := KC.out.c1
    have lKD0 := KD.out.c0
    have lKD1 := KD.out.c1
    have lKG0 := KG.out.c0
    have lKG1 := KG.out.c1
    have lKI0 := KI.out.c0
    have lKI1 := KI.out.c1
    go_wp2_with fail
    refine (awake_any _).mono ?_
    rintro e w' ⟨he, hb⟩
    subst he
    clear lKA0 lKA1 lKB0 lKB1 lKC0 lKC1 lKD0 lKD1 lKG0 lKG1 lKI0 lKI1
    have HB' := Lib.hid (Below.after HB.out hb)
    clear hb
    go_wp2_with fail
    go_ret
    exact ⟨rfl, HB'.out⟩
  · go_enter Try.func6, Try.ntmps6
    have KA := Lib.hid ((Cell2.new w (.int .i64 a1) (.int .i64 a2) 23).alloc (.cells #[.int .i64 b1, .int .i64 b2] 23))
    have kb := Cell2.new (w.alloc (.cells #[.int .i64 a1, .int .i64 a2] 23)) (.int .i64 b1) (.int .i64 b2) 23
    rw [show (w.alloc (.cells #[.int .i64 a1, .int .i64 a2] 23)).heap.size = w.heap.size + 1 by simp] at kb
    have KB := Lib.hid kb
    clear kb
    have HB := Lib.hid (below_alloc2 w (.cells #[.int .i64 a1, .int .i64 a2] 23) (.cells #[.int .i64 b1, .int .i64 b2] 23))
    go_wp2_with fail
    refine (HU.out _).mono ?_
    rintro e w' ⟨he, hb⟩
    subst he
    have HB' := Lib.hid (Below.after HB.out hb)
    clear HB
    have HB := HB'
    clear HB'
    have KA' := Lib.hid (KA.out.later hb)
    clear KA
    have KA := KA'
    clear KA'
    have KB' := Lib.hid (KB.out.later hb)
    clear KB
    have KB := KB'
    clear KB'
    clear hb
    have hb := below_alloc w' (.cells #[.int .i64 h1, .int .i64 h2] 23)
    have HB' := Lib.hid (Below.after HB.out hb)
    clear HB
    have HB := HB'
    clear HB'
    have KA' := Lib.hid (KA.out.later hb)
    clear KA
    have KA := KA'
    clear KA'
    have KB' := Lib.hid (KB.out.later hb)
    clear KB
    have KB := KB'
    clear KB'
    clear hb
    have KC := Lib.hid (Cell2.new w' (.int .i64 h1) (.int .i64 h2) 23)
    have lKA0 := KA.out.c0
    have lKA1 := KA.out.c1
    have lKB0 := KB.out.c0
    have lKB1 := KB.out.c1
    have lKC0 := KC.out.c0
    have lKC1 := KC.out.c1
    go_wp2_with fail
    generalize w'.heap.size = gKC at *
    generalize w'.alloc (.cells #[.int .i64 h1, .int .i64 h2] 23) = vKC at *
    refine (RU.out _).mono ?_
    rintro e w' ⟨he, hb⟩
    subst he
    clear lKA0 lKA1 lKB0 lKB1 lKC0 lKC1
    have HB' := Lib.hid (Below.after HB.out hb)
    clear HB
    have HB := HB'
    clear HB'
    have KA' := Lib.hid (KA.out.later hb)
    clear KA
    have KA := KA'
    clear KA'
    have KB' := Lib.hid (KB.out.later hb)
    clear KB
    have KB := KB'
    clear KB'
    have KC' := Lib.hid (KC.out.later hb)
    clear KC
    have KC := KC'
    clear KC'
    clear hb
    have hb := below_alloc w' (.cells #[.int .i64 h1, .int .i64 h2] 23)
    have HB' := Lib.hid (Below.after HB.out hb)
    clear HB
    have HB := HB'
    clear HB'
    have KA' := Lib.hid (KA.out.later hb)
    clear KA
    have KA := KA'
    clear KA'
    have KB' := Lib.hid (KB.out.later hb)
    clear KB
    have KB := KB'
    clear KB'
    have KC' := Lib.hid (KC.out.later hb)
    clear KC
    have KC := KC'
    clear KC'
    clear hb
    have KD := Lib.hid (Cell2.new w' (.int .i64 h1) (.int .i64 h2) 23)
    have lKA0 := KA.out.c0
    have lKA1 := KA.out.c1
    have lKB0 := KB.out.c0
    have lKB1 := KB.out.c1
    have lKC0 := KC.out.c0
    have lKC1 := KC.out.c1
    have lKD0 := KD.out.c0
    have lKD1 := KD.out.c1
    go_wp2_with fail
    generalize w'.heap.size = gKD at *
    generalize w'.alloc (.cells #[.int .i64 h1, .int .i64 h2] 23) = vKD at *
    refine (HM.out _).mono ?_
    rintro e w' ⟨he, hb⟩
    subst he
    clear lKA0 lKA1 lKB0 lKB1 lKC0 lKC1 lKD0 lKD1
    have HB' := Lib.hid (Below.after HB.out hb)
    clear HB
    have HB := HB'
    clear HB'
    have KA' := Lib.hid (KA.out.later hb)
    clear KA
    have KA := KA'
    clear KA'
    have KB' := Lib.hid (KB.out.later hb)
    clear KB
    have KB := KB'
    clear KB'
    have KC' := Lib.hid (KC.out.later hb)
    clear KC
    have KC := KC'
    clear KC'
    have KD' := Lib.hid (KD.out.later hb)
    clear KD
    have KD := KD'
    clear KD'
    clear hb
    have hb := below_alloc w' (.cells #[.int .i64 m1, .int .i64 m2] 23)
    have HB' := Lib.hid (Below.after HB.out hb)
    clear HB
    have HB := HB'
    clear HB'
    have KA' := Lib.hid (KA.out.later hb)
    clear KA
    have KA := KA'
    clear KA'
    have KB' := Lib.hid (KB.out.later hb)
    clear KB
    have KB := KB'
    clear KB'
    have KC' := Lib.hid (KC.out.later hb)
    clear KC
    have KC := KC'
    clear KC'
    have KD' := Lib.hid (KD.out.later hb)
    clear KD
    have KD := KD'
    clear KD'
    clear hb
    have KG := Lib.hid (Cell2.new w' (.int .i64 m1) (.int .i64 m2) 23)
    have lKA0 := KA.out.c0
    have lKA1 := KA.out.c1
    have lKB0 := KB.out.c0
    have lKB1 := KB.out.c1
    have lKC0 := KC.out.c0
    have lKC1 := KC.out.c1
    have lKD0 := KD.out.c0
    have lKD1 := KD.out.c1
    have lKG0 := KG.out.c0
    have lKG1 := KG.out.c1
    go_wp2_with fail
    generalize w'.heap.size = gKG at *
    generalize w'.alloc (.cells #[.int .i64 m1, .int .i64 m2] 23) = vKG at *
    refine (RM.out _).mono ?_
    rintro e w' ⟨he, hb⟩
    subst he
    clear lKA0 lKA1 lKB0 lKB1 lKC0 lKC1 lKD0 lKD1 lKG0 lKG1
    have HB' := Lib.hid (Below.after HB.out hb)
    clear HB
    have HB := HB'
    clear HB'
    have KA' := Lib.hid (KA.out.later hb)
    clear KA
    have KA := KA'
    clear KA'
    have KB' := Lib.hid (KB.out.later hb)
    clear KB
    have KB := KB'
    clear KB'
    have KC' := Lib.hid (KC.out.later hb)
    clear KC
    have KC := KC'
    clear KC'
    have KD' := Lib.hid (KD.out.later hb)
    clear KD
    have KD := KD'
    clear KD'
    have KG' := Lib.hid (KG.out.later hb)
    clear KG
    have KG := KG'
    clear KG'
    clear hb
    have hb := below_alloc w' (.cells #[.int .i64 m1, .int .i64 m2] 23)
    have HB' := Lib.hid (Below.after HB.out hb)
    clear HB
    have HB := HB'
    clear HB'
    have KA' := Lib.hid (KA.out.later hb)
    clear KA
    have KA := KA'
    clear KA'
    have KB' := Lib.hid (KB.out.later hb)
    clear KB
    have KB := KB'
    clear KB'
    have KC' := Lib.hid (KC.out.later hb)
    clear KC
    have KC := KC'
    clear KC'
    have KD' := Lib.hid (KD.out.later hb)
    clear KD
    have KD := KD'
    clear KD'
    have KG' := Lib.hid (KG.out.later hb)
    clear KG
    have KG := KG'
    clear KG'
    clear hb
    have KI := Lib.hid (Cell2.new w' (.int .i64 m1) (.int .i64 m2) 23)
    have lKA0 := KA.out.c0
    have lKA1 := KA.out.c1
    have lKB0 := KB.out.c0
    have lKB1 := KB.out.c1
    have lKC0 := KC.out.c0
    have lKC1 := KC.out.c1
    have lKD0 := KD.out.c0
    have lKD1 := KD.out.c1
    have lKG0 := KG.out.c0
    have lKG1 := KG.out.c1
    have lKI0 := KI.out.c0
    have lKI1 := KI.out.c1
    go_wp2_with fail
    generalize w'.heap.size = gKI at *
    generalize w'.alloc (.cells #[.int .i64 m1, .int .i64 m2] 23) = vKI at *
    refine (HO.out _).mono ?_
    rintro e w' ⟨he, hb⟩
    subst he
    clear lKA0 lKA1 lKB0 lKB1 lKC0 lKC1 lKD0 lKD1 lKG0 lKG1 lKI0 lKI1
    have HB' := Lib.hid (Below.after HB.out hb)
    clear HB
    have HB := HB'
    clear HB'
    have KA' := Lib.hid (KA.out.later hb)
    clear KA
    have KA := KA'
    clear KA'
    have KB' := Lib.hid (KB.out.later hb)
    clear KB
    have KB := KB'
    clear KB'
    have KC' := Lib.hid (KC.out.later hb)
    clear KC
    have KC := KC'
    clear KC'
    have KD' := Lib.hid (KD.out.later hb)
    clear KD
    have KD := KD'
    clear KD'
    have KG' := Lib.hid (KG.out.later hb)
    clear KG
    have KG := KG'
    clear KG'
    have KI' := Lib.hid (KI.out.later hb)
    clear KI
    have KI := KI'
    clear KI'
    clear hb
    have lKA0 := KA.out.c0
    have lKA1 := KA.out.c1
    have lKB0 := KB.out.c0
    have lKB1 := KB.out.c1
    have lKC0 := KC.out.c0
    have lKC1 := KC.out.c1
    have lKD0 := KD.out.c0
    have lKD1 := KD.out.c1
    have lKG0 := KG.out.c0
    have lKG1 := KG.out.c1
    have lKI0 := KI.out.c0
    have lKI1 := KI.out.c1
    go_wp2_with fail
    refine (RO.out _).mono ?_
    rintro e w' ⟨he, hb⟩
    subst he
    clear lKA0 lKA1 lKB0 lKB1 lKC0 lKC1 lKD0 lKD1 lKG0 lKG1 lKI0 lKI1
    have HB' := Lib.hid (Below.after HB.out hb)
    clear HB
    have HB := HB'
    clear HB'
    have KA' := Lib.hid (KA.out.later hb)
    clear KA
    have KA := KA'
    clear KA'
    have KB' := Lib.hid (KB.out.later hb)
    clear KB
    have KB := KB'
    clear KB'
    have KC' := Lib.hid (KC.out.later hb)
    clear KC
    have KC := KC'
    clear KC'
    have KD' := Lib.hid (KD.out.later hb)
    clear KD
    have KD := KD'
    clear KD'
    have KG' := Lib.hid (KG.out.later hb)
    clear KG
    have KG := KG'
    clear KG'
    have KI' := Lib.hid (KI.out.later hb)
    clear KI
    have KI := KI'
    clear KI'
    clear hb
    have lKA0 := KA.out.c0
    have lKA1 := KA.out.c1
    have lKB0 := KB.out.c0
    have lKB1 := KB.out.c1
    have lKC0 := KC.out.c0
    have lKC1 := KC.out.c1
    have lKD0 := KD.out.c0
    have lKD1 := KD.out.c1
    have lKG0 := KG.out.c0
    have lKG1 := KG.out.c1
    have lKI0 := KI.out.c0
    have lKI1 := KI.out.c1
    go_wp2_with fail
    refine (HP.out _).mono ?_
    rintro e w' ⟨he, hb⟩
    subst he
    clear lKA0 lKA1 lKB0 lKB1 lKC0 lKC1 lKD0 lKD1 lKG0 lKG1 lKI0 lKI1
    have HB' := Lib.hid (Below.after HB.out hb)
    clear HB
    have HB := HB'
    clear HB'
    have KA' := Lib.hid (KA.out.later hb)
    clear KA
    have KA := KA'
    clear KA'
    have KB' := Lib.hid (KB.out.later hb)
    clear KB
    have KB := KB'
    clear KB'
    have KC' := Lib.hid (KC.out.later hb)
    clear KC
    have KC := KC'
    clear KC'
    have KD' := Lib.hid (KD.out.later hb)
    clear KD
    have KD := KD'
    clear KD'
    have KG' := Lib.hid (KG.out.later hb)
    clear KG
    have KG := KG'
    clear KG'
    have KI' := Lib.hid (KI.out.later hb)
    clear KI
    have KI := KI'
    clear KI'
    clear hb
    have lKA0 := KA.out.c0
    have lKA1 := KA.out.c1
    have lKB0 := KB.out.c0
    have lKB1 := KB.out.c1
    have lKC0 := KC.out.c0
    have lKC1 := KC.out.c1
    have lKD0 := KD.out.c0
    have lKD1 := KD.out.c1
    have lKG0 := KG.out.c0
    have lKG1 := KG.out.c1
    have lKI0 := KI.out.c0
    have lKI1 := KI.out.c1
    go_wp2_with fail
    refine (awake_any _).mono ?_
    rintro e w' ⟨he, hb⟩
    subst he
    clear lKA0 lKA1 lKB0 lKB1 lKC0 lKC1 lKD0 lKD1 lKG0 lKG1 lKI0 lKI1
    have HB' := Lib.hid (Below.after HB.out hb)
    clear hb
    go_wp2_with fail
    go_ret
    exact ⟨rfl, HB'.out⟩
  · go_enter Try.func6, Try.ntmps6
    have KA := Lib.hid ((Cell2.new w (.int .i64 a1) (.int .i64 a2) 23).alloc (.cells #[.int .i64 b1, .int .i64 b2] 23))
    have kb := Cell2.new (w.alloc (.cells #[.int .i64 a1, .int .i64 a2] 23)) (.int .i64 b1) (.int .i64 b2) 23
    rw [show (w.alloc (.cells #[.int .i64 a1, .int .i64 a2] 23)).heap.size = w.heap.size + 1 by simp] at kb
    have KB := Lib.hid kb
    clear kb
    have HB := Lib.hid (below_alloc2 w (.cells #[.int .i64 a1, .int .i64 a2] 23) (.cells #[.int .i64 b1, .int .i64 b2] 23))
    go_wp2_with fail
    refine (HU.out _).mono ?_
    rintro e w' ⟨he, hb⟩
    subst he
    have HB' := Lib.hid (Below.after HB.out hb)
    clear HB
    have HB := HB'
    clear HB'
    have KA' := Lib.hid (KA.out.later hb)
    clear KA
    have KA := KA'
    clear KA'
    have KB' := Lib.hid (KB.out.later hb)
    clear KB
    have KB := KB'
    clear KB'
    clear hb
    have hb := below_alloc w' (.cells #[.int .i64 h1, .int .i64 h2] 23)
    have HB' := Lib.hid (Below.after HB.out hb)
    clear HB
    have HB := HB'
    clear HB'
    have KA' := Lib.hid (KA.out.later hb)
    clear KA
    have KA := KA'
    clear KA'
    have KB' := Lib.hid (KB.out.later hb)
    clear KB
    have KB := KB'
    clear KB'
    clear hb
    have KC := Lib.hid (Cell2.new w' (.int .i64 h1) (.int .i64 h2) 23)
    have lKA0 := KA.out.c0
    have lKA1 := KA.out.c1
    have lKB0 := KB.out.c0
    have lKB1 := KB.out.c1
    have lKC0 := KC.out.c0
    have lKC1 := KC.out.c1
    go_wp2_with fail
    generalize w'.heap.size = gKC at *
    generalize w'.alloc (.cells #[.int .i64 h1, .int .i64 h2] 23) = vKC at *
    refine (RU.out _).mono ?_
    rintro e w' ⟨he, hb⟩
    subst he
    clear lKA0 lKA1 lKB0 lKB1 lKC0 lKC1
    have HB' := Lib.hid (Below.after HB.out hb)
    clear HB
    have HB := HB'
    clear HB'
    have KA' := Lib.hid (KA.out.later hb)
    clear KA
    have KA := KA'
    clear KA'
    have KB' := Lib.hid (KB.out.later hb)
    clear KB
    have KB := KB'
    clear KB'
    have KC' := Lib.hid (KC.out.later hb)
    clear KC
    have KC := KC'
    clear KC'
    clear hb
    have hb := below_alloc w' (.cells #[.int .i64 h1, .int .i64 h2] 23)
    have HB' := Lib.hid (Below.after HB.out hb)
    clear HB
    have HB := HB'
    clear HB'
    have KA' := Lib.hid (KA.out.later hb)
    clear KA
    have KA := KA'
    clear KA'
    have KB' := Lib.hid (KB.out.later hb)
    clear KB
    have KB := KB'
    clear KB'
    have KC' := Lib.hid (KC.out.later hb)
    clear KC
    have KC := KC'
    clear KC'
    clear hb
    have KD := Lib.hid (Cell2.new w' (.int .i64 h1) (.int .i64 h2) 23)
    have lKA0 := KA.out.c0
    have lKA1 := KA.out.c1
    have lKB0 := KB.out.c0
    have lKB1 := KB.out.c1
    have lKC0 := KC.out.c0
    have lKC1 := KC.out.c1
    have lKD0 := KD.out.c0
    have lKD1 := KD.out.c1
    go_wp2_with fail
    generalize w'.heap.size = gKD at *
    generalize w'.alloc (.cells #[.int .i64 h1, .int .i64 h2] 23) = vKD at *
    refine (HM.out _).mono ?_
    rintro e w' ⟨he, hb⟩
    subst he
    clear lKA0 lKA1 lKB0 lKB1 lKC0 lKC1 lKD0 lKD1
    have HB' := Lib.hid (Below.after HB.out hb)
    clear HB
    have HB := HB'
    clear HB'
    have KA' := Lib.hid (KA.out.later hb)
    clear KA
    have KA := KA'
    clear KA'
    have KB' := Lib.hid (KB.out.later hb)
    clear KB
    have KB := KB'
    clear KB'
    have KC' := Lib.hid (KC.out.later hb)
    clear KC
    have KC := KC'
    clear KC'
    have KD' := Lib.hid (KD.out.later hb)
    clear KD
    have KD := KD'
    clear KD'
    clear hb
    have hb := below_alloc w' (.cells #[.int .i64 m1, .int .i64 m2] 23)
    have HB' := Lib.hid (Below.after HB.out hb)
    clear HB
    have HB := HB'
    clear HB'
    have KA' := Lib.hid (KA.out.later hb)
    clear KA
    have KA := KA'
    clear KA'
    have KB' := Lib.hid (KB.out.later hb)
    clear KB
    have KB := KB'
    clear KB'
    have KC' := Lib.hid (KC.out.later hb)
    clear KC
    have KC := KC'
    clear KC'
    have KD' := Lib.hid (KD.out.later hb)
    clear KD
    have KD := KD'
    clear KD'
    clear hb
    have KG := Lib.hid (Cell2.new w' (.int .i64 m1) (.int .i64 m2) 23)
    have lKA0 := KA.out.c0
    have lKA1 := KA.out.c1
    have lKB0 := KB.out.c0
    have lKB1 := KB.out.c1
    have lKC0 := KC.out.c0
    have lKC1 := KC.out.c1
    have lKD0 := KD.out.c0
    have lKD1 := KD.out.c1
    have lKG0 := KG.out.c0
    have lKG1 := KG.out.c1
    go_wp2_with fail
    generalize w'.heap.size = gKG at *
    generalize w'.alloc (.cells #[.int .i64 m1, .int .i64 m2] 23) = vKG at *
    refine (RM.out _).mono ?_
    rintro e w' ⟨he, hb⟩
    subst he
    clear lKA0 lKA1 lKB0 lKB1 lKC0 lKC1 lKD0 lKD1 lKG0 lKG1
    have HB' := Lib.hid (Below.after HB.out hb)
    clear HB
    have HB := HB'
    clear HB'
    have KA' := Lib.hid (KA.out.later hb)
    clear KA
    have KA := KA'
    clear KA'
    have KB' := Lib.hid (KB.out.later hb)
    clear KB
    have KB := KB'
    clear KB'
    have KC' := Lib.hid (KC.out.later hb)
    clear KC
    have KC := KC'
    clear KC'
    have KD' := Lib.hid (KD.out.later hb)
    clear KD
    have KD := KD'
    clear KD'
    have KG' := Lib.hid (KG.out.later hb)
    clear KG
    have KG := KG'
    clear KG'
    clear hb
    have hb := below_alloc w' (.cells #[.int .i64 m1, .int .i64 m2] 23)
    have HB' := Lib.hid (Below.after HB.out hb)
    clear HB
    have HB := HB'
    clear HB'
    have KA' := Lib.hid (KA.out.later hb)
    clear KA
    have KA := KA'
    clear KA'
    have KB' := Lib.hid (KB.out.later hb)
    clear KB
    have KB := KB'
    clear KB'
    have KC' := Lib.hid (KC.out.later hb)
    clear KC
    have KC := KC'
    clear KC'
    have KD' := Lib.hid (KD.out.later hb)
    clear KD
    have KD := KD'
    clear KD'
    have KG' := Lib.hid (KG.out.later hb)
    clear KG
    have KG := KG'
    clear KG'
    clear hb
    have KI := Lib.hid (Cell2.new w' (.int .i64 m1) (.int .i64 m2) 23)
    have lKA0 := KA.out.c0
    have lKA1 := KA.out.c1
    have lKB0 := KB.out.c0
    have lKB1 := KB.out.c1
    have lKC0 := KC.out.c0
    have lKC1 := KC.out.c1
    have lKD0 := KD.out.c0
    have lKD1 := KD.out.c1
    have lKG0 := KG.out.c0
    have lKG1 := KG.out.c1
    have lKI0 := KI.out.c0
    have lKI1 := KI.out.c1
    go_wp2_with fail
    generalize w'.heap.size = gKI at *
    generalize w'.alloc (.cells #[.int .i64 m1, .int .i64 m2] 23) = vKI at *
    refine (HO.out _).mono ?_
    rintro e w' ⟨he, hb⟩
    subst he
    clear lKA0 lKA1 lKB0 lKB1 lKC0 lKC1 lKD0 lKD1 lKG0 lKG1 lKI0 lKI1
    have HB' := Lib.hid (Below.after HB.out hb)
    clear HB
    have HB := HB'
    clear HB'
    have KA' := Lib.hid (KA.out.later hb)
    clear KA
    have KA := KA'
    clear KA'
    have KB' := Lib.hid (KB.out.later hb)
    clear KB
    have KB := KB'
    clear KB'
    have KC' := Lib.hid (KC.out.later hb)
    clear KC
    have KC := KC'
    clear KC'
    have KD' := Lib.hid (KD.out.later hb)
    clear KD
    have KD := KD'
    clear KD'
    have KG' := Lib.hid (KG.out.later hb)
    clear KG
    have KG := KG'
    clear KG'
    have KI' := Lib.hid (KI.out.later hb)
    clear KI
    have KI := KI'
    clear KI'
    clear hb
    have lKA0 := KA.out.c0
    have lKA1 := KA.out.c1
    have lKB0 := KB.out.c0
    have lKB1 := KB.out.c1
    have lKC0 := KC.out.c0
    have lKC1 := KC.out.c1
    have lKD0 := KD.out.c0
    have lKD1 := KD.out.c1
    have lKG0 := KG.out.c0
    have lKG1 := KG.out.c1
    have lKI0 := KI.out.c0
    have lKI1 := KI.out.c1
    go_wp2_with fail
    refine (RO.out _).mono ?_
    rintro e w' ⟨he, hb⟩
    subst he
    clear lKA0 lKA1 lKB0 lKB1 lKC0 lKC1 lKD0 lKD1 lKG0 lKG1 lKI0 lKI1
    have HB' := Lib.hid (Below.after HB.out hb)
    clear HB
    have HB := HB'
    clear HB'
    have KA' := Lib.hid (KA.out.later hb)
    clear KA
    have KA := KA'
    clear KA'
    have KB' := Lib.hid (KB.out.later hb)
    clear KB
    have KB := KB'
    clear KB'
    have KC' := Lib.hid (KC.out.later hb)
    clear KC
    have KC := KC'
    clear KC'
    have KD' := Lib.hid (KD.out.later hb)
    clear KD
    have KD := KD'
    clear KD'
    have KG' := Lib.hid (KG.out.later hb)
    clear KG
    have KG := KG'
    clear KG'
    have KI' := Lib.hid (KI.out.later hb)
    clear KI
    have KI := KI'
    clear KI'
    clear hb
    have lKA0 := KA.out.c0
    have lKA1 := KA.out.c1
    have lKB0 := KB.out.c0
    have lKB1 := KB.out.c1
    have lKC0 := KC.out.c0
    have lKC1 := KC.out.c1
    have lKD0 := KD.out.c0
    have lKD1 := KD.out.c1
    have lKG0 := KG.out.c0
    have lKG1 := KG.out.c1
    have lKI0 := KI.out.c0
    have lKI1 := KI.out.c1
    go_wp2_with fail
    refine (HP.out _).mono ?_
    rintro e w' ⟨he, hb⟩
    subst he
    clear lKA0 lKA1 lKB0 lKB1 lKC0 lKC1 lKD0 lKD1 lKG0 lKG1 lKI0 lKI1
    have HB' := Lib.hid (Below.after HB.out hb)
    clear HB
    have HB := HB'
    clear HB'
    have KA' := Lib.hid (KA.out.later hb)
    clear KA
    have KA := KA'
    clear KA'
    have KB' := Lib.hid (KB.out.later hb)
    clear KB
    have KB := KB'
    clear KB'
    have KC' := Lib.hid (KC.out.later hb)
    clear KC
    have KC := KC'
    clear KC'
    have KD' := Lib.hid (KD.out.later hb)
    clear KD
    have KD := KD'
    clear KD'
    have KG' := Lib.hid (KG.out.later hb)
    clear KG
    have KG := KG'
    clear KG'
    have KI' := Lib.hid (KI.out.later hb)
    clear KI
    have KI := KI'
    clear KI'
    clear hb
    have lKA0 := KA.out.c0
    have lKA1 := KA.out.c1
    have lKB0 := KB.out.c0
    have lKB1 := KB.out.c1
    have lKC0 := KC.out.c0
    have lKC1 := KC.out.c1
    have lKD0 := KD.out.c0
    have lKD1 := KD.out.c1
    have lKG0 := KG.out.c0
    have lKG1 := KG.out.c1
    have lKI0 := KI.out.c0
    have lKI1 := KI.out.c1
    go_wp2_with fail
    refine (awake_any _).mono ?_
    rintro e w' ⟨he, hb⟩
    subst he
    clear lKA0 lKA1 lKB0 lKB1 lKC0 lKC1 lKD0 lKD1 lKG0 lKG1 lKI0 lKI1
    have HB' := Lib.hid (Below.after HB.out hb)
    clear hb
    go_wp2_with fail
    go_ret
    exact ⟨rfl, HB'.out⟩

theorem lawSets_any (a b : Int × Int) (w : World) (ha : I64 a.1 ∧ I64 a.2) (hb : I64 b.1 ∧ I64 b.2) :
    Calls Try.prog 6 #[ivV a, ivV b] w fun e w' => e = .returned (.bool true) ∧ Below w.heap.size w w' := by
  refine sets_walk a.1 a.2 b.1 b.2 (hullW a b).1.1 (hullW a b).1.2 (hullW a b).2 (meetW a b).1.1 (meetW a b).1.2 (meetW a b).2 (orderW a b).1 (orderW a b).2 (orderW b a).1 (orderW b a).2 w
    (fun W => hull_any a b W ha hb) (fun W => rhull_any a b W) (fun W => meet_any a b W ha hb) (fun W => rmeet_any a b W) (fun W => order_any a b W ha hb) (fun W => rorder_any a b W) (fun W => order_any b a W hb ha) ?_
  unfold orderW meetW
  rw [examI_swap b a]
  by_cases h : examI [a, b] = 0
  · right
    have va := (examI_ok h a (by simp)).2.2
    have vb := (examI_ok h b (by simp)).2.2
    simp only [if_pos h]
    by_cases c1 : a.2 < b.1
    · simp only [if_pos c1, if_neg (show ¬ b.2 < a.1 by omega), if_pos (show a.2 < b.1 ∨ b.2 < a.1 from .inl c1)]
      exact ⟨trivial, trivial, .inr (.inr ⟨trivial, trivial, trivial⟩)⟩
    · by_cases c2 : b.2 < a.1
      · simp only [if_neg c1, if_pos c2, if_pos (show a.2 < b.1 ∨ b.2 < a.1 from .inr c2)]
        exact ⟨trivial, trivial, .inr (.inl ⟨trivial, trivial, trivial⟩)⟩
      · simp only [if_neg c1, if_neg c2, if_neg (show ¬ (a.2 < b.1 ∨ b.2 < a.1) by omega)]
        exact ⟨trivial, trivial, .inl ⟨trivial, trivial, trivial⟩⟩
  · left
    rw [if_neg h]
    exact h
end Go.Proofs.Ytmmgbofhbnflkaa
