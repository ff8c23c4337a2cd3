import Derived.Test.YtmmgbofhbnflkaaIQ14
namespace Go.Proofs.Ytmmgbofhbnflkaa
open Go.RowKit


set_option maxRecDepth 100000 in
set_option maxHeartbeats 8000000 in
theorem pis_walk (a1 a2 s1 s2 se t1 t2 te : Int) (w : World)
    (H1 : ∀ W, Calls Try.prog 27 #[(.agg #[.int .i64 a1, .int .i64 a2])] W fun e w' => e = .returned (.tuple #[.agg #[.int .i64 s1, .int .i64 s2], .int .i64 se]) ∧ Below W.heap.size W w')
    (R1 : ∀ W, Calls Try.prog 28 #[(.agg #[.int .i64 a1, .int .i64 a2])] W fun e w' => e = .returned (.tuple #[.agg #[.int .i64 s1, .int .i64 s2], .int .i64 se]) ∧ Below W.heap.size W w')
    (H2 : ∀ W, Calls Try.prog 29 #[(.agg #[.int .i64 a1, .int .i64 a2])] W fun e w' => e = .returned (.tuple #[.agg #[.int .i64 t1, .int .i64 t2], .int .i64 te]) ∧ Below W.heap.size W w')
    (R2 : ∀ W, Calls Try.prog 30 #[(.agg #[.int .i64 a1, .int .i64 a2])] W fun e w' => e = .returned (.tuple #[.agg #[.int .i64 t1, .int .i64 t2], .int .i64 te]) ∧ Below W.heap.size W w') :
    Calls Try.prog 5 #[(.agg #[.int .i64 a1, .int .i64 a2])] w fun e w' => e = .returned (.bool true) ∧ Below w.heap.size w w' := by
  have H1 := Lib.hid H1
  have R1 := Lib.hid R1
  have H2 := Lib.hid H2
  have R2 := Lib.hid R2
  go_enter Try.func5, Try.ntmps5
  have KA := Lib.hid (Cell2.new w (.int .i64 a1) (.int .i64 a2) 23)
  have HB := Lib.hid (below_alloc w (.cells #[.int .i64 a1, .int .i64 a2] 23))
  go_wp2_with fail
  refine (H1.out _).mono ?_
  rintro e w' ⟨he, hb⟩
  subst he
  have HB' := Lib.hid (Below.after HB.out hb)
  clear HB
  have HB := HB'
  clear HB'
  have KA' := Lib.hid (KA.out.later hb)
  clear KA
  have KA := KA'
  clear KA'
  clear hb
  have hb := below_alloc w' (.cells #[.int .i64 s1, .int .i64 s2] 23)
  have HB' := Lib.hid (Below.after HB.out hb)
  clear HB
  have HB := HB'
  clear HB'
  have KA' := Lib.hid (KA.out.later hb)
  clear KA
  have KA := KA'
  clear KA'
  clear hb
  have KC := Lib.hid (Cell2.new w' (.int .i64 s1) (.int .i64 s2) 23)
  have lKA0 := KA.out.c0
  have lKA1 := KA.out.c1
  have lKC0 := KC.out.c0
  have lKC1 := KC.out.c1
  go_wp2_with fail
  generalize w'.heap.size = gKC at *
  generalize w'.alloc (.cells #[.int .i64 s1, .int .i64 s2] 23) = vKC at *
  refine (R1.out _).mono ?_
  rintro e w' ⟨he, hb⟩
  subst he
  clear lKA0 lKA1 lKC0 lKC1
  have HB' := Lib.hid (Below.after HB.out hb)
  clear HB
  have HB := HB'
  clear HB'
  have KA' := Lib.hid (KA.out.later hb)
  clear KA
  have KA := KA'
  clear KA'
  have KC' := Lib.hid (KC.out.later hb)
  clear KC
  have KC := KC'
  clear KC'
  clear hb
  have hb := below_alloc w' (.cells #[.int .i64 s1, .int .i64 s2] 23)
  have HB' := Lib.hid (Below.after HB.out hb)
  clear HB
  have HB := HB'
  clear HB'
  have KA' := Lib.hid (KA.out.later hb)
  clear KA
  have KA := KA'
  clear KA'
  have KC' := Lib.hid (KC.out.later hb)
  clear KC
  have KC := KC'
  clear KC'
  clear hb
  have KD := Lib.hid (Cell2.new w' (.int .i64 s1) (.int .i64 s2) 23)
  have lKA0 := KA.out.c0
  have lKA1 := KA.out.c1
  have lKC0 := KC.out.c0
  have lKC1 := KC.out.c1
  have lKD0 := KD.out.c0
  have lKD1 := KD.out.c1
  go_wp2_with fail
  generalize w'.heap.size = gKD at *
  generalize w'.alloc (.cells #[.int .i64 s1, .int .i64 s2] 23) = vKD at *
  refine (H2.out _).mono ?_
  rintro e w' ⟨he, hb⟩
  subst he
  clear lKA0 lKA1 lKC0 lKC1 lKD0 lKD1
  have HB' := Lib.hid (Below.after HB.out hb)
  clear HB
  have HB := HB'
  clear HB'
  have KA' := Lib.hid (KA.out.later hb)
  clear KA
  have KA := KA'
  clear KA'
  have KC' := Lib.hid (KC.out.later hb)
  clear KC
  have KC := KC'
  clear KC'
  have KD' := Lib.hid (KD.out.later hb)
  clear KD
  have KD := KD'
  clear KD'
  clear hb
  have hb := below_alloc w' (.cells #[.int .i64 t1, .int .i64 t2] 23)
  have HB' := Lib.hid (Below.after HB.out hb)
  clear HB
  have HB := HB'
  clear HB'
  have KA' := Lib.hid (KA.out.later hb)
  clear KA
  have KA := KA'
  clear KA'
  have KC' := Lib.hid (KC.out.later hb)
  clear KC
  have KC := KC'
  clear KC'
  have KD' := Lib.hid (KD.out.later hb)
  clear KD
  have KD := KD'
  clear KD'
  clear hb
  have KG := Lib.hid (Cell2.new w' (.int .i64 t1) (.int .i64 t2) 23)
  have lKA0 := KA.out.c0
  have lKA1 := KA.out.c1
  have lKC0 := KC.out.c0
  have lKC1 := KC.out.c1
  have lKD0 := KD.out.c0
  have lKD1 := KD.out.c1
  have lKG0 := KG.out.c0
  have lKG1 := KG.out.c1
  go_wp2_with fail
  generalize w'.heap.size = gKG at *
  generalize w'.alloc (.cells #[.int .i64 t1, .int .i64 t2] 23) = vKG at *
  refine (R2.out _).mono ?_
  rintro e w' ⟨he, hb⟩
  subst he
  clear lKA0 lKA1 lKC0 lKC1 lKD0 lKD1 lKG0 lKG1
  have HB' := Lib.hid (Below.after HB.out hb)
  clear HB
  have HB := HB'
  clear HB'
  have KA' := Lib.hid (KA.out.later hb)
  clear KA
  have KA := KA'
  clear KA'
  have KC' := Lib.hid (KC.out.later hb)
  clear KC
  have KC := KC'
  clear KC'
  have KD' := Lib.hid (KD.out.later hb)
  clear KD
  have KD := KD'
  clear KD'
  have KG' := Lib.hid (KG.out.later hb)
  clear KG
  have KG := KG'
  clear KG'
  clear hb
  have hb := below_alloc w' (.cells #[.int .i64 t1, .int .i64 t2] 23)
  have HB' := Lib.hid (Below.after HB.out hb)
  clear HB
  have HB := HB'
  clear HB'
  have KA' := Lib.hid (KA.out.later hb)
  clear KA
  have KA := KA'
  clear KA'
  have KC' := Lib.hid (KC.out.later hb)
  clear KC
  have KC := KC'
  clear KC'
  have KD' := Lib.hid (KD.out.later hb)
  clear KD
  have KD := KD'
  clear KD'
  have KG' := Lib.hid (KG.out.later hb)
  clear KG
  have KG := KG'
  clear KG'
  clear hb
  have KI := Lib.hid (Cell2.new w' (.int .i64 t1) (.int .i64 t2) 23)
  have lKA0 := KA.out.c0
  have lKA1 := KA.out.c1
  have lKC0 := KC.out.c0
  have lKC1 := KC.out.c1
  have lKD0 := KD.out.c0
  have lKD1 := KD.out.c1
  have lKG0 := KG.out.c0
  have lKG1 := KG.out.c1
  have lKI0 := KI.out.c0
  have lKI1 := KI.out.c1
  go_wp2_with fail
  generalize w'.heap.size = gKI at *
  generalize w'.alloc (.cells #[.int .i64 t1, .int .i64 t2] 23) = vKI at *
  refine (awake_any _).mono ?_
  rintro e w' ⟨he, hb⟩
  subst he
  clear lKA0 lKA1 lKC0 lKC1 lKD0 lKD1 lKG0 lKG1 lKI0 lKI1
  have HB' := Lib.hid (Below.after HB.out hb)
  clear hb
  go_wp2_with fail
  go_ret
  exact ⟨rfl, HB'.out⟩
theorem lawPis_any (a : Int × Int) (w : World) (ha : I64 a.1 ∧ I64 a.2) :
    Calls Try.prog 5 #[ivV a] w fun e w' => e = .returned (.bool true) ∧ Below w.heap.size w w' :=
  pis_walk a.1 a.2 (piE a).1.1 (piE a).1.2 (piE a).2 (discE a).1.1 (discE a).1.2 (discE a).2 w
    (fun W => pi_any a W ha) (fun W => rPi_any a W) (fun W => disc_any a W ha) (fun W => rDisc_any a W)
end Go.Proofs.Ytmmgbofhbnflkaa
