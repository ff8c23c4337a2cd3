import Derived.Test.YtmmgbofhbnflkaaIQD
namespace Go.Proofs.Ytmmgbofhbnflkaa
open Go.RowKit


set_option maxRecDepth 100000 in
set_option maxHeartbeats 8000000 in
theorem scales_walk (a1 a2 b1 b2 k s1 s2 se t1 t2 te u1 u2 ue : Int) (w : World)
    (H1 : ∀ W, Calls Try.prog 21 #[(.agg #[.int .i64 a1, .int .i64 a2]), .int .i64 b1, .int .i64 b2] W fun e w' => e = .returned (.tuple #[.agg #[.int .i64 s1, .int .i64 s2], .int .i64 se]) ∧ Below W.heap.size W w')
    (R1 : ∀ W, Calls Try.prog 22 #[(.agg #[.int .i64 a1, .int .i64 a2]), .int .i64 b1, .int .i64 b2] W fun e w' => e = .returned (.tuple #[.agg #[.int .i64 s1, .int .i64 s2], .int .i64 se]) ∧ Below W.heap.size W w')
    (H2 : ∀ W, Calls Try.prog 23 #[(.agg #[.int .i64 a1, .int .i64 a2]), .int .i64 k] W fun e w' => e = .returned (.tuple #[.agg #[.int .i64 t1, .int .i64 t2], .int .i64 te]) ∧ Below W.heap.size W w')
    (R2 : ∀ W, Calls Try.prog 24 #[(.agg #[.int .i64 a1, .int .i64 a2]), .int .i64 k] W fun e w' => e = .returned (.tuple #[.agg #[.int .i64 t1, .int .i64 t2], .int .i64 te]) ∧ Below W.heap.size W w')
    (H3 : ∀ W, Calls Try.prog 25 #[(.agg #[.int .i64 a1, .int .i64 a2]), .int .i64 k] W fun e w' => e = .returned (.tuple #[.agg #[.int .i64 u1, .int .i64 u2], .int .i64 ue]) ∧ Below W.heap.size W w')
    (R3 : ∀ W, Calls Try.prog 26 #[(.agg #[.int .i64 a1, .int .i64 a2]), .int .i64 k] W fun e w' => e = .returned (.tuple #[.agg #[.int .i64 u1, .int .i64 u2], .int .i64 ue]) ∧ Below W.heap.size W w') :
    Calls Try.prog 4 #[(.agg #[.int .i64 a1, .int .i64 a2]), (.agg #[.int .i64 b1, .int .i64 b2]), .int .i64 k] w fun e w' => e = .returned (.bool true) ∧ Below w.heap.size w w' := by
  have H1 := Lib.hid H1
  have R1 := Lib.hid R1
  have H2 := Lib.hid H2
  have R2 := Lib.hid R2
  have H3 := Lib.hid H3
  have R3 := Lib.hid R3
  go_enter Try.func4, Try.ntmps4
  have KA := Lib.hid ((Cell2.new w (.int .i64 a1) (.int .i64 a2) 23).alloc (.cells #[.int .i64 b1, .int .i64 b2] 30))
  have kb := Cell2.new (w.alloc (.cells #[.int .i64 a1, .int .i64 a2] 23)) (.int .i64 b1) (.int .i64 b2) 30
  rw [show (w.alloc (.cells #[.int .i64 a1, .int .i64 a2] 23)).heap.size = w.heap.size + 1 by simp] at kb
  have KB := Lib.hid kb
  clear kb
  have HB := Lib.hid (below_alloc2 w (.cells #[.int .i64 a1, .int .i64 a2] 23) (.cells #[.int .i64 b1, .int .i64 b2] 30))
  have lKA0 := KA.out.c0
  have lKA1 := KA.out.c1
  have lKB0 := KB.out.c0
  have lKB1 := KB.out.c1
  go_wp2_with fail
  refine (H1.out _).mono ?_
  rintro e w' ⟨he, hb⟩
  subst he
  clear lKA0 lKA1 lKB0 lKB1
  have HB' := Lib.hid (Below.after HB.out hb)
  clear HB
  have HB := HB'
  clear HB'
  have KA' := Lib.hid (KA.out.later hb)
  clear KA
  have KA := KA'
  clear KA'
  have KB' := Lib.hid (KB.out.later hb)
  clear KB
  have KB := KB'
  clear KB'
  clear hb
  have hb := below_alloc w' (.cells #[.int .i64 s1, .int .i64 s2] 23)
  have HB' := Lib.hid (Below.after HB.out hb)
  clear HB
  have HB := HB'
  clear HB'
  have KA' := Lib.hid (KA.out.later hb)
  clear KA
  have KA := KA'
  clear KA'
  have KB' := Lib.hid (KB.out.later hb)
  clear KB
  have KB := KB'
  clear KB'
  clear hb
  have KC := Lib.hid (Cell2.new w' (.int .i64 s1) (.int .i64 s2) 23)
  have lKA0 := KA.out.c0
  have lKA1 := KA.out.c1
  have lKB0 := KB.out.c0
  have lKB1 := KB.out.c1
  have lKC0 := KC.out.c0
  have lKC1 := KC.out.c1
  go_wp2_with fail
  generalize w'.heap.size = gKC at *
  generalize w'.alloc (.cells #[.int .i64 s1, .int .i64 s2] 23) = vKC at *
  refine (R1.out _).mono ?_
  rintro e w' ⟨he, hb⟩
  subst he
  clear lKA0 lKA1 lKB0 lKB1 lKC0 lKC1
  have HB' := Lib.hid (Below.after HB.out hb)
  clear HB
  have HB := HB'
  clear HB'
  have KA' := Lib.hid (KA.out.later hb)
  clear KA
  have KA := KA'
  clear KA'
  have KB' := Lib.hid (KB.out.later hb)
  clear KB
  have KB := KB'
  clear KB'
  have KC' := Lib.hid (KC.out.later hb)
  clear KC
  have KC := KC'
  clear KC'
  clear hb
  have hb := below_alloc w' (.cells #[.int .i64 s1, .int .i64 s2] 23)
  have HB' := Lib.hid (Below.after HB.out hb)
  clear HB
  have HB := HB'
  clear HB'
  have KA' := Lib.hid (KA.out.later hb)
  clear KA
  have KA := KA'
  clear KA'
  have KB' := Lib.hid (KB.out.later hb)
  clear KB
  have KB := KB'
  clear KB'
  have KC' := Lib.hid (KC.out.later hb)
  clear KC
  have KC := KC'
  clear KC'
  clear hb
  have KD := Lib.hid (Cell2.new w' (.int .i64 s1) (.int .i64 s2) 23)
  have lKA0 := KA.out.c0
  have lKA1 := KA.out.c1
  have lKB0 := KB.out.c0
  have lKB1 := KB.out.c1
  have lKC0 := KC.out.c0
  have lKC1 := KC.out.c1
  have lKD0 := KD.out.c0
  have lKD1 := KD.out.c1
  go_wp2_with fail
  generalize w'.heap.size = gKD at *
  generalize w'.alloc (.cells #[.int .i64 s1, .int .i64 s2] 23) = vKD at *
  refine (H2.out _).mono ?_
  rintro e w' ⟨he, hb⟩
  subst he
  clear lKA0 lKA1 lKB0 lKB1 lKC0 lKC1 lKD0 lKD1
  have HB' := Lib.hid (Below.after HB.out hb)
  clear HB
  have HB := HB'
  clear HB'
  have KA' := Lib.hid (KA.out.later hb)
  clear KA
  have KA := KA'
  clear KA'
  have KB' := Lib.hid (KB.out.later hb)
  clear KB
  have KB := KB'
  clear KB'
  have KC' := Lib.hid (KC.out.later hb)
  clear KC
  have KC := KC'
  clear KC'
  have KD' := Lib.hid (KD.out.later hb)
  clear KD
  have KD := KD'
  clear KD'
  clear hb
  have hb := below_alloc w' (.cells #[.int .i64 t1, .int .i64 t2] 23)
  have HB' := Lib.hid (Below.after HB.out hb)
  clear HB
  have HB := HB'
  clear HB'
  have KA' := Lib.hid (KA.out.later hb)
  clear KA
  have KA := KA'
  clear KA'
  have KB' := Lib.hid (KB.out.later hb)
  clear KB
  have KB := KB'
  clear KB'
  have KC' := Lib.hid (KC.out.later hb)
  clear KC
  have KC := KC'
  clear KC'
  have KD' := Lib.hid (KD.out.later hb)
  clear KD
  have KD := KD'
  clear KD'
  clear hb
  have KG := Lib.hid (Cell2.new w' (.int .i64 t1) (.int .i64 t2) 23)
  have lKA0 := KA.out.c0
  have lKA1 := KA.out.c1
  have lKB0 := KB.out.c0
  have lKB1 := KB.out.c1
  have lKC0 := KC.out.c0
  have lKC1 := KC.out.c1
  have lKD0 := KD.out.c0
  have lKD1 := KD.out.c1
  have lKG0 := KG.out.c0
  have lKG1 := KG.out.c1
  go_wp2_with fail
  generalize w'.heap.size = gKG at *
  generalize w'.alloc (.cells #[.int .i64 t1, .int .i64 t2] 23) = vKG at *
  refine (R2.out _).mono ?_
  rintro e w' ⟨he, hb⟩
  subst he
  clear lKA0 lKA1 lKB0 lKB1 lKC0 lKC1 lKD0 lKD1 lKG0 lKG1
  have HB' := Lib.hid (Below.after HB.out hb)
  clear HB
  have HB := HB'
  clear HB'
  have KA' := Lib.hid (KA.out.later hb)
  clear KA
  have KA := KA'
  clear KA'
  have KB' := Lib.hid (KB.out.later hb)
  clear KB
  have KB := KB'
  clear KB'
  have KC' := Lib.hid (KC.out.later hb)
  clear KC
  have KC := KC'
  clear KC'
  have KD' := Lib.hid (KD.out.later hb)
  clear KD
  have KD := KD'
  clear KD'
  have KG' := Lib.hid (KG.out.later hb)
  clear KG
  have KG := KG'
  clear KG'
  clear hb
  have hb := below_alloc w' (.cells #[.int .i64 t1, .int .i64 t2] 23)
  have HB' := Lib.hid (Below.after HB.out hb)
  clear HB
  have HB := HB'
  clear HB'
  have KA' := Lib.hid (KA.out.later hb)
  clear KA
  have KA := KA'
  clear KA'
  have KB' := Lib.hid (KB.out.later hb)
  clear KB
  have KB := KB'
  clear KB'
  have KC' := Lib.hid (KC.out.later hb)
  clear KC
  have KC := KC'
  clear KC'
  have KD' := Lib.hid (KD.out.later hb)
  clear KD
  have KD := KD'
  clear KD'
  have KG' := Lib.hid (KG.out.later hb)
  clear KG
  have KG := KG'
  clear KG'
  clear hb
  have KI := Lib.hid (Cell2.new w' (.int .i64 t1) (.int .i64 t2) 23)
  have lKA0 := KA.out.c0
  have lKA1 := KA.out.c1
  have lKB0 := KB.out.c0
  have lKB1 := KB.out.c1
  have lKC0 := KC.out.c0
  have lKC1 := KC.out.c1
  have lKD0 := KD.out.c0
  have lKD1 := KD.out.c1
  have lKG0 := KG.out.c0
  have lKG1 := KG.out.c1
  have lKI0 := KI.out.c0
  have lKI1 := KI.out.c1
  go_wp2_with fail
  generalize w'.heap.size = gKI at *
  generalize w'.alloc (.cells #[.int .i64 t1, .int .i64 t2] 23) = vKI at *
  refine (H3.out _).mono ?_
  rintro e w' ⟨he, hb⟩
  subst he
  clear lKA0 lKA1 lKB0 lKB1 lKC0 lKC1 lKD0 lKD1 lKG0 lKG1 lKI0 lKI1
  have HB' := Lib.hid (Below.after HB.out hb)
  clear HB
  have HB := HB'
  clear HB'
  have KA' := Lib.hid (KA.out.later hb)
  clear KA
  have KA := KA'
  clear KA'
  have KB' := Lib.hid (KB.out.later hb)
  clear KB
  have KB := KB'
  clear KB'
  have KC' := Lib.hid (KC.out.later hb)
  clear KC
  have KC := KC'
  clear KC'
  have KD' := Lib.hid (KD.out.later hb)
  clear KD
  have KD := KD'
  clear KD'
  have KG' := Lib.hid (KG.out.later hb)
  clear KG
  have KG := KG'
  clear KG'
  have KI' := Lib.hid (KI.out.later hb)
  clear KI
  have KI := KI'
  clear KI'
  clear hb
  have hb := below_alloc w' (.cells #[.int .i64 u1, .int .i64 u2] 23)
  have HB' := Lib.hid (Below.after HB.out hb)
  clear HB
  have HB := HB'
  clear HB'
  have KA' := Lib.hid (KA.out.later hb)
  clear KA
  have KA := KA'
  clear KA'
  have KB' := Lib.hid (KB.out.later hb)
  clear KB
  have KB := KB'
  clear KB'
  have KC' := Lib.hid (KC.out.later hb)
  clear KC
  have KC := KC'
  clear KC'
  have KD' := Lib.hid (KD.out.later hb)
  clear KD
  have KD := KD'
  clear KD'
  have KG' := Lib.hid (KG.out.later hb)
  clear KG
  have KG := KG'
  clear KG'
  have KI' := Lib.hid (KI.out.later hb)
  clear KI
  have KI := KI'
  clear KI'
  clear hb
  have KL := Lib.hid (Cell2.new w' (.int .i64 u1) (.int .i64 u2) 23)
  have lKA0 := KA.out.c0
  have lKA1 := KA.out.c1
  have lKB0 := KB.out.c0
  have lKB1 := KB.out.c1
  have lKC0 := KC.out.c0
  have lKC1 := KC.out.c1
  have lKD0 := KD.out.c0
  have lKD1 := KD.out.c1
  have lKG0 := KG.out.c0
  have lKG1 := KG.out.c1
  have lKI0 := KI.out.c0
  have lKI1 := KI.out.c1
  have lKL0 := KL.out.c0
  have lKL1 := KL.out.c1
  go_wp2_with fail
  generalize w'.heap.size = gKL at *
  generalize w'.alloc (.cells #[.int .i64 u1, .int .i64 u2] 23) = vKL at *
  refine (R3.out _).mono ?_
  rintro e w' ⟨he, hb⟩
  subst he
  clear lKA0 lKA1 lKB0 lKB1 lKC0 lKC1 lKD0 lKD1 lKG0 lKG1 lKI0 lKI1 lKL0 lKL1
  have HB' := Lib.hid (Below.after HB.out hb)
  clear HB
  have HB := HB'
  clear HB'
  have KA' := Lib.hid (KA.out.later hb)
  clear KA
  have KA := KA'
  clear KA'
  have KB' := Lib.hid (KB.out.later hb)
  clear KB
  have KB := KB'
  clear KB'
  have KC' := Lib.hid (KC.out.later hb)
  clear KC
  have KC := KC'
  clear KC'
  have KD' := Lib.hid (KD.out.later hb)
  clear KD
  have KD := KD'
  clear KD'
  have KG' := Lib.hid (KG.out.later hb)
  clear KG
  have KG := KG'
  clear KG'
  have KI' := Lib.hid (KI.out.later hb)
  clear KI
  have KI := KI'
  clear KI'
  have KL' := Lib.hid (KL.out.later hb)
  clear KL
  have KL := KL'
  clear KL'
  clear hb
  have hb := below_alloc w' (.cells #[.int .i64 u1, .int .i64 u2] 23)
  have HB' := Lib.hid (Below.after HB.out hb)
  clear HB
  have HB := HB'
  clear HB'
  have KA' := Lib.hid (KA.out.later hb)
  clear KA
  have KA := KA'
  clear KA'
  have KB' := Lib.hid (KB.out.later hb)
  clear KB
  have KB := KB'
  clear KB'
  have KC' := Lib.hid (KC.out.later hb)
  clear KC
  have KC := KC'
  clear KC'
  have KD' := Lib.hid (KD.out.later hb)
  clear KD
  have KD := KD'
  clear KD'
  have KG' := Lib.hid (KG.out.later hb)
  clear KG
  have KG := KG'
  clear KG'
  have KI' := Lib.hid (KI.out.later hb)
  clear KI
  have KI := KI'
  clear KI'
  have KL' := Lib.hid (KL.out.later hb)
  clear KL
  have KL := KL'
  clear KL'
  clear hb
  have KN := Lib.hid (Cell2.new w' (.int .i64 u1) (.int .i64 u2) 23)
  have lKA0 := KA.out.c0
  have lKA1 := KA.out.c1
  have lKB0 := KB.out.c0
  have lKB1 := KB.out.c1
  have lKC0 := KC.out.c0
  have lKC1 := KC.out.c1
  have lKD0 := KD.out.c0
  have lKD1 := KD.out.c1
  have lKG0 := KG.out.c0
  have lKG1 := KG.out.c1
  have lKI0 := KI.out.c0
  have lKI1 := KI.out.c1
  have lKL0 := KL.out.c0
  have lKL1 := KL.out.c1
  have lKN0 := KN.out.c0
  have lKN1 := KN.out.c1
  go_wp2_with fail
  generalize w'.heap.size = gKN at *
  generalize w'.alloc (.cells #[.int .i64 u1, .int .i64 u2] 23) = vKN at *
  refine (awake_any _).mono ?_
  rintro e w' ⟨he, hb⟩
  subst he
  clear lKA0 lKA1 lKB0 lKB1 lKC0 lKC1 lKD0 lKD1 lKG0 lKG1 lKI0 lKI1 lKL0 lKL1 lKN0 lKN1
  have HB' := Lib.hid (Below.after HB.out hb)
  clear hb
  go_wp2_with fail
  go_ret
  exact ⟨rfl, HB'.out⟩
theorem lawScales_any (a b : Int × Int) (k : Int) (w : World) (ha : I64 a.1 ∧ I64 a.2) (hb : I64 b.1 ∧ I64 b.2) (hk : I64 k) :
    Calls Try.prog 4 #[ivV a, .agg #[.int .i64 b.1, .int .i64 b.2], .int .i64 k] w fun e w' => e = .returned (.bool true) ∧ Below w.heap.size w w' := by
  obtain ⟨x, y, c, h1, h2⟩ := root_both a.1 a.2 k ha hk
  exact scales_walk a.1 a.2 b.1 b.2 k (scaleE a b.1 b.2).1.1 (scaleE a b.1 b.2).1.2 (scaleE a b.1 b.2).2 (powE a k).1.1 (powE a k).1.2 (powE a k).2 x y c w
    (fun W => scale_any a b.1 b.2 W ha hb.1 hb.2) (fun W => rScale_any a b.1 b.2 W) (fun W => pow_any a k W ha hk) (fun W => rPow03_any a k W) h1 h2
end Go.Proofs.Ytmmgbofhbnflkaa
