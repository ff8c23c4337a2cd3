import Derived.Test.YtlababdfdjjjaaaGreatDoorB3
namespace Go.Proofs.YtlababdfdjjjaaaGreatDoor
open Go.RowKit

theorem small_floor {W : World} {v : Value} {f : Fr} (ha : Arg W v f.num) : (dg (qfloorW f).2.1).length ≤ 1000 := by
  unfold qfloorW
  by_cases h : examQW [f] = 0
  · rw [if_pos h]
    have he := (properW_ok (examQW_ok h f (by simp))).1
    have hl := (ha.num he (by simp)).2.1
    have h1 : (dg (val f.num / val f.den)).length ≤ 512 := Nat.le_trans (dg_mono (Nat.div_le_self _ _)) hl
    have h2 := len_add (val f.num / val f.den) 1
    have h3 : (dg 1).length = 1 := by rw [dg_one]; rfl
    show (dg (if f.neg = true ∧ val f.num % val f.den ≠ 0 then val f.num / val f.den + 1 else val f.num / val f.den)).length ≤ 1000
    by_cases hc : f.neg = true ∧ val f.num % val f.den ≠ 0
    · rw [if_pos hc]; omega
    · rw [if_neg hc]; omega
  · rw [if_neg h]; exact small_zero
theorem floor_post {f : FuncId} {args : Array Value} {W : World} {r : Bool × Nat × Int} (h : Calls Tryz.prog f args W (ResFl W r)) (hs : (dg r.2.1).length ≤ 1000) : Calls Tryz.prog f args W fun e w' => ∃ v, e = .returned (.tuple #[.bool r.1, v, .int .i64 r.2.2]) ∧ Arg w' v (dg r.2.1) ∧ Below W.heap.size W w' :=
  h.mono fun _ _ ⟨v, he, hn, hb⟩ => ⟨v, he, num_arg hn _ rfl hs, hb⟩

set_option maxRecDepth 100000 in
set_option maxHeartbeats 16000000 in
theorem lawWideQuos_any (s1 s2 : Bool) (A1 B1 A2 B2 : Option Addr) (n1 a1 m1 b1 n2 a2 m2 b2 : Nat) (k : Int) (ln1 ld1 ln2 ld2 : List Nat) (w : World) (hT : Tabs w) (fa : MuchOk w A1 B1 n1 a1 m1 b1 ln1 ld1) (fb : MuchOk w A2 B2 n2 a2 m2 b2 ln2 ld2) :
    Calls Tryz.prog 9 #[.agg #[.bool s1, .slice A1 n1 a1, .slice B1 m1 b1, .bool s2, .slice A2 n2 a2, .slice B2 m2 b2, .int .i64 k]] w fun e w' => e = .returned (.bool true) ∧ Below w.heap.size w w' := by
  have HT := Lib.hid hT
  have HB := Lib.hid (Below.refl w.heap.size w)
  obtain ⟨c1, hf1, hg1⟩ := fa
  obtain ⟨c2, hf2, hg2⟩ := fb
  have F1 := Lib.hid hf1
  have F2 := Lib.hid hf2
  have G1 := Lib.hid hg1
  have G2 := Lib.hid hg2
  clear hf1 hf2 hg1 hg2 hT
  cases c1
  · cases c2
    · obtain ⟨h1, h2⟩ := G1.out (by trivial)
      obtain ⟨h3, h4⟩ := G2.out (by trivial)
      clear G1 G2
      have H1 : Hid (∀ W, Below w.heap.size w W → Calls Tryz.prog 49 #[.agg #[.bool s1, .slice A1 n1 a1, .slice B1 m1 b1], .agg #[.bool s2, .slice A2 n2 a2, .slice B2 m2 b2]] W (QPost W (qaddW ⟨s1, ln1, ld1⟩ ⟨s2, ln2, ld2⟩).1 (dg (qaddW ⟨s1, ln1, ld1⟩ ⟨s2, ln2, ld2⟩).2.1) (dg (qaddW ⟨s1, ln1, ld1⟩ ⟨s2, ln2, ld2⟩).2.2.1) (qaddW ⟨s1, ln1, ld1⟩ ⟨s2, ln2, ld2⟩).2.2.2)) := Lib.hid fun W hW => qpost (QAdd_any ⟨s1, ln1, ld1⟩ ⟨s2, ln2, ld2⟩ _ _ _ _ W ⟨h1.up hW, h2.up hW⟩ ⟨h3.up hW, h4.up hW⟩) (small_qadd _ _)
      have R1 : Hid (∀ W, Below w.heap.size w W → Calls Tryz.prog 50 #[.agg #[.bool s1, .slice A1 n1 a1, .slice B1 m1 b1], .agg #[.bool s2, .slice A2 n2 a2, .slice B2 m2 b2]] W (QPost W (qaddW ⟨s1, ln1, ld1⟩ ⟨s2, ln2, ld2⟩).1 (dg (qaddW ⟨s1, ln1, ld1⟩ ⟨s2, ln2, ld2⟩).2.1) (dg (qaddW ⟨s1, ln1, ld1⟩ ⟨s2, ln2, ld2⟩).2.2.1) (qaddW ⟨s1, ln1, ld1⟩ ⟨s2, ln2, ld2⟩).2.2.2)) := Lib.hid fun W hW => qpost (rQAdd_any ⟨s1, ln1, ld1⟩ ⟨s2, ln2, ld2⟩ _ _ _ _ W ⟨h1.up hW, h2.up hW⟩ ⟨h3.up hW, h4.up hW⟩) (small_qadd _ _)
      generalize (qaddW ⟨s1, ln1, ld1⟩ ⟨s2, ln2, ld2⟩).2.2.2 = e1 at *
      generalize dg (qaddW ⟨s1, ln1, ld1⟩ ⟨s2, ln2, ld2⟩).2.2.1 = D1 at *
      generalize dg (qaddW ⟨s1, ln1, ld1⟩ ⟨s2, ln2, ld2⟩).2.1 = N1 at *
      generalize (qaddW ⟨s1, ln1, ld1⟩ ⟨s2, ln2, ld2⟩).1 = S1 at *
      have H2 : Hid (∀ W, Below w.heap.size w W → Calls Tryz.prog 51 #[.agg #[.bool s1, .slice A1 n1 a1, .slice B1 m1 b1], .agg #[.bool s2, .slice A2 n2 a2, .slice B2 m2 b2]] W (QPost W (qsubW ⟨s1, ln1, ld1⟩ ⟨s2, ln2, ld2⟩).1 (dg (qsubW ⟨s1, ln1, ld1⟩ ⟨s2, ln2, ld2⟩).2.1) (dg (qsubW ⟨s1, ln1, ld1⟩ ⟨s2, ln2, ld2⟩).2.2.1) (qsubW ⟨s1, ln1, ld1⟩ ⟨s2, ln2, ld2⟩).2.2.2)) := Lib.hid fun W hW => qpost (QSub_any ⟨s1, ln1, ld1⟩ ⟨s2, ln2, ld2⟩ _ _ _ _ W ⟨h1.up hW, h2.up hW⟩ ⟨h3.up hW, h4.up hW⟩) (small_qsub _ _)
      have R2 : Hid (∀ W, Below w.heap.size w W → Calls Tryz.prog 52 #[.agg #[.bool s1, .slice A1 n1 a1, .slice B1 m1 b1], .agg #[.bool s2, .slice A2 n2 a2, .slice B2 m2 b2]] W (QPost W (qsubW ⟨s1, ln1, ld1⟩ ⟨s2, ln2, ld2⟩).1 (dg (qsubW ⟨s1, ln1, ld1⟩ ⟨s2, ln2, ld2⟩).2.1) (dg (qsubW ⟨s1, ln1, ld1⟩ ⟨s2, ln2, ld2⟩).2.2.1) (qsubW ⟨s1, ln1, ld1⟩ ⟨s2, ln2, ld2⟩).2.2.2)) := Lib.hid fun W hW => qpost (rQSub_any ⟨s1, ln1, ld1⟩ ⟨s2, ln2, ld2⟩ _ _ _ _ W ⟨h1.up hW, h2.up hW⟩ ⟨h3.up hW, h4.up hW⟩) (small_qsub _ _)
      generalize (qsubW ⟨s1, ln1, ld1⟩ ⟨s2, ln2, ld2⟩).2.2.2 = e2 at *
      generalize dg (qsubW ⟨s1, ln1, ld1⟩ ⟨s2, ln2, ld2⟩).2.2.1 = D2 at *
      generalize dg (qsubW ⟨s1, ln1, ld1⟩ ⟨s2, ln2, ld2⟩).2.1 = N2 at *
      generalize (qsubW ⟨s1, ln1, ld1⟩ ⟨s2, ln2, ld2⟩).1 = S2 at *
      have H3 : Hid (∀ W, Below w.heap.size w W → Calls Tryz.prog 54 #[.agg #[.bool s1, .slice A1 n1 a1, .slice B1 m1 b1], .agg #[.bool s2, .slice A2 n2 a2, .slice B2 m2 b2]] W (QPost W (qmulW ⟨s1, ln1, ld1⟩ ⟨s2, ln2, ld2⟩).1 (dg (qmulW ⟨s1, ln1, ld1⟩ ⟨s2, ln2, ld2⟩).2.1) (dg (qmulW ⟨s1, ln1, ld1⟩ ⟨s2, ln2, ld2⟩).2.2.1) (qmulW ⟨s1, ln1, ld1⟩ ⟨s2, ln2, ld2⟩).2.2.2)) := Lib.hid fun W hW => qpost (QMul_any ⟨s1, ln1, ld1⟩ ⟨s2, ln2, ld2⟩ _ _ _ _ W ⟨h1.up hW, h2.up hW⟩ ⟨h3.up hW, h4.up hW⟩) (small_qmul _ _)
      have R3 : Hid (∀ W, Below w.heap.size w W → Calls Tryz.prog 55 #[.agg #[.bool s1, .slice A1 n1 a1, .slice B1 m1 b1], .agg #[.bool s2, .slice A2 n2 a2, .slice B2 m2 b2]] W (QPost W (qmulW ⟨s1, ln1, ld1⟩ ⟨s2, ln2, ld2⟩).1 (dg (qmulW ⟨s1, ln1, ld1⟩ ⟨s2, ln2, ld2⟩).2.1) (dg (qmulW ⟨s1, ln1, ld1⟩ ⟨s2, ln2, ld2⟩).2.2.1) (qmulW ⟨s1, ln1, ld1⟩ ⟨s2, ln2, ld2⟩).2.2.2)) := Lib.hid fun W hW => qpost (rQMul_any ⟨s1, ln1, ld1⟩ ⟨s2, ln2, ld2⟩ _ _ _ _ W ⟨h1.up hW, h2.up hW⟩ ⟨h3.up hW, h4.up hW⟩) (small_qmul _ _)
      generalize (qmulW ⟨s1, ln1, ld1⟩ ⟨s2, ln2, ld2⟩).2.2.2 = e3 at *
      generalize dg (qmulW ⟨s1, ln1, ld1⟩ ⟨s2, ln2, ld2⟩).2.2.1 = D3 at *
      generalize dg (qmulW ⟨s1, ln1, ld1⟩ ⟨s2, ln2, ld2⟩).2.1 = N3 at *
      generalize (qmulW ⟨s1, ln1, ld1⟩ ⟨s2, ln2, ld2⟩).1 = S3 at *
      have H4 : Hid (∀ W, Below w.heap.size w W → Calls Tryz.prog 56 #[.agg #[.bool s1, .slice A1 n1 a1, .slice B1 m1 b1], .agg #[.bool s2, .slice A2 n2 a2, .slice B2 m2 b2]] W (QPost W (qdivW ⟨s1, ln1, ld1⟩ ⟨s2, ln2, ld2⟩).1 (dg (qdivW ⟨s1, ln1, ld1⟩ ⟨s2, ln2, ld2⟩).2.1) (dg (qdivW ⟨s1, ln1, ld1⟩ ⟨s2, ln2, ld2⟩).2.2.1) (qdivW ⟨s1, ln1, ld1⟩ ⟨s2, ln2, ld2⟩).2.2.2)) := Lib.hid fun W hW => qpost (QDiv_any ⟨s1, ln1, ld1⟩ ⟨s2, ln2, ld2⟩ _ _ _ _ W ⟨h1.up hW, h2.up hW⟩ ⟨h3.up hW, h4.up hW⟩) (small_qdiv _ _)
      have R4 : Hid (∀ W, Below w.heap.size w W → Calls Tryz.prog 57 #[.agg #[.bool s1, .slice A1 n1 a1, .slice B1 m1 b1], .agg #[.bool s2, .slice A2 n2 a2, .slice B2 m2 b2]] W (QPost W (qdivW ⟨s1, ln1, ld1⟩ ⟨s2, ln2, ld2⟩).1 (dg (qdivW ⟨s1, ln1, ld1⟩ ⟨s2, ln2, ld2⟩).2.1) (dg (qdivW ⟨s1, ln1, ld1⟩ ⟨s2, ln2, ld2⟩).2.2.1) (qdivW ⟨s1, ln1, ld1⟩ ⟨s2, ln2, ld2⟩).2.2.2)) := Lib.hid fun W hW => qpost (rQDiv_any ⟨s1, ln1, ld1⟩ ⟨s2, ln2, ld2⟩ _ _ _ _ W ⟨h1.up hW, h2.up hW⟩ ⟨h3.up hW, h4.up hW⟩) (small_qdiv _ _)
      generalize (qdivW ⟨s1, ln1, ld1⟩ ⟨s2, ln2, ld2⟩).2.2.2 = e4 at *
      generalize dg (qdivW ⟨s1, ln1, ld1⟩ ⟨s2, ln2, ld2⟩).2.2.1 = D4 at *
      generalize dg (qdivW ⟨s1, ln1, ld1⟩ ⟨s2, ln2, ld2⟩).2.1 = N4 at *
      generalize (qdivW ⟨s1, ln1, ld1⟩ ⟨s2, ln2, ld2⟩).1 = S4 at *
      have H5 : Hid (∀ W, Below w.heap.size w W → Calls Tryz.prog 58 #[.agg #[.bool s1, .slice A1 n1 a1, .slice B1 m1 b1], .agg #[.bool s2, .slice A2 n2 a2, .slice B2 m2 b2]] W fun e w' => e = .returned (.tuple #[.int .i64 (qcmpW ⟨s1, ln1, ld1⟩ ⟨s2, ln2, ld2⟩).1, .int .i64 (qcmpW ⟨s1, ln1, ld1⟩ ⟨s2, ln2, ld2⟩).2]) ∧ Below W.heap.size W w') := Lib.hid fun W hW => QCmp_any ⟨s1, ln1, ld1⟩ ⟨s2, ln2, ld2⟩ _ _ _ _ W ⟨h1.up hW, h2.up hW⟩ ⟨h3.up hW, h4.up hW⟩
      have R5 : Hid (∀ W, Below w.heap.size w W → Calls Tryz.prog 59 #[.agg #[.bool s1, .slice A1 n1 a1, .slice B1 m1 b1], .agg #[.bool s2, .slice A2 n2 a2, .slice B2 m2 b2]] W fun e w' => e = .returned (.tuple #[.int .i64 (qcmpW ⟨s1, ln1, ld1⟩ ⟨s2, ln2, ld2⟩).1, .int .i64 (qcmpW ⟨s1, ln1, ld1⟩ ⟨s2, ln2, ld2⟩).2]) ∧ Below W.heap.size W w') := Lib.hid fun W hW => rQCmp_any ⟨s1, ln1, ld1⟩ ⟨s2, ln2, ld2⟩ _ _ _ _ W ⟨h1.up hW, h2.up hW⟩ ⟨h3.up hW, h4.up hW⟩
      generalize (qcmpW ⟨s1, ln1, ld1⟩ ⟨s2, ln2, ld2⟩).1 = k5 at *
      generalize (qcmpW ⟨s1, ln1, ld1⟩ ⟨s2, ln2, ld2⟩).2 = e5 at *
      have H6 : Hid (∀ W, Below w.heap.size w W → Calls Tryz.prog 60 #[.agg #[.bool s1, .slice A1 n1 a1, .slice B1 m1 b1]] W fun e w' => ∃ v, e = .returned (.tuple #[.bool (qfloorW ⟨s1, ln1, ld1⟩).1, v, .int .i64 (qfloorW ⟨s1, ln1, ld1⟩).2.2]) ∧ Arg w' v (dg (qfloorW ⟨s1, ln1, ld1⟩).2.1) ∧ Below W.heap.size W w') := Lib.hid fun W hW => floor_post (QFloor_any ⟨s1, ln1, ld1⟩ _ _ W ⟨h1.up hW, h2.up hW⟩) (small_floor h1)
      have R6 : Hid (∀ W, Below w.heap.size w W → Calls Tryz.prog 61 #[.agg #[.bool s1, .slice A1 n1 a1, .slice B1 m1 b1]] W fun e w' => ∃ v, e = .returned (.tuple #[.bool (qfloorW ⟨s1, ln1, ld1⟩).1, v, .int .i64 (qfloorW ⟨s1, ln1, ld1⟩).2.2]) ∧ Arg w' v (dg (qfloorW ⟨s1, ln1, ld1⟩).2.1) ∧ Below W.heap.size W w') := Lib.hid fun W hW => floor_post (rQFloor_any ⟨s1, ln1, ld1⟩ _ _ W ⟨h1.up hW, h2.up hW⟩) (small_floor h1)
      generalize (qfloorW ⟨s1, ln1, ld1⟩).2.2 = e6 at *
      generalize dg (qfloorW ⟨s1, ln1, ld1⟩).2.1 = L6 at *
      generalize (qfloorW ⟨s1, ln1, ld1⟩).1 = s6 at *
      have H7 : Hid (∀ W, Below w.heap.size w W → Calls Tryz.prog 62 #[.agg #[.bool s1, .slice A1 n1 a1, .slice B1 m1 b1]] W fun e w' => e = .returned (.bool (properW s1 ln1 ld1)) ∧ Below W.heap.size W w') := Lib.hid fun W hW => Proper_any s1 _ _ ln1 ld1 W (h1.up hW) (h2.up hW)
      have R7 : Hid (∀ W, Below w.heap.size w W → Calls Tryz.prog 63 #[.agg #[.bool s1, .slice A1 n1 a1, .slice B1 m1 b1]] W fun e w' => e = .returned (.bool (properW s1 ln1 ld1)) ∧ Below W.heap.size W w') := Lib.hid fun W hW => rProper_any s1 _ _ ln1 ld1 W (h1.up hW) (h2.up hW)
      generalize properW s1 ln1 ld1 = p7 at *
      clear h1 h2 h3 h4
      have X := Lib.hid (QX.new (s1 := s1) (n1 := .slice A1 n1 a1) (d1 := .slice B1 m1 b1) (s2 := s2) (n2 := .slice A2 n2 a2) (d2 := .slice B2 m2 b2) (k := k) w)
      have hb := al_below w (.cells #[.bool s1, .slice A1 n1 a1, .slice B1 m1 b1, .bool s2, .slice A2 n2 a2, .slice B2 m2 b2, .int .i64 k] 50)
      have HB' := Lib.hid (HB.out.trans (hb.mono HB.out.size))
      clear HB
      have HB := HB'
      clear HB' hb
      go_enter Tryz.func9, Tryz.ntmps9
      have zX0 := X.out.c0
      have zX1 := X.out.c1
      have zX2 := X.out.c2
      have zX3 := X.out.c3
      have zX4 := X.out.c4
      have zX5 := X.out.c5
      have zX6 := X.out.c6
      go_wp2_with fail
      generalize w.alloc (.cells #[.bool s1, .slice A1 n1 a1, .slice B1 m1 b1, .bool s2, .slice A2 n2 a2, .slice B2 m2 b2, .int .i64 k] 50) = w0 at *
      have hgx := X.out.lt
      clear hgx
      refine (F1.out s1 _).mono ?_
      rintro e w1 ⟨he, hb⟩
      subst he
      clear zX0 zX1 zX2 zX3 zX4 zX5 zX6
      have X' := Lib.hid (X.out.below hb)
      clear X
      have X := X'
      clear X'
      have HB' := Lib.hid (HB.out.trans (hb.mono HB.out.size))
      clear HB
      have HB := HB'
      clear HB'
      clear hb
      have zX0 := X.out.c0
      have zX1 := X.out.c1
      have zX2 := X.out.c2
      have zX3 := X.out.c3
      have zX4 := X.out.c4
      have zX5 := X.out.c5
      have zX6 := X.out.c6
      go_wp2_with fail
      refine (F2.out s2 _).mono ?_
      rintro e w2 ⟨he, hb⟩
      subst he
      clear zX0 zX1 zX2 zX3 zX4 zX5 zX6
      have X' := Lib.hid (X.out.below hb)
      clear X
      have X := X'
      clear X'
      have HB' := Lib.hid (HB.out.trans (hb.mono HB.out.size))
      clear HB
      have HB := HB'
      clear HB'
      clear hb
      have zX0 := X.out.c0
      have zX1 := X.out.c1
      have zX2 := X.out.c2
      have zX3 := X.out.c3
      have zX4 := X.out.c4
      have zX5 := X.out.c5
      have zX6 := X.out.c6
      go_wp2_with fail
      refine (H1.out _ HB.out).mono ?_
      rintro e w3 ⟨Aa, la, ca, Ba, ma, da, he, hNa, hEa, hb⟩
      subst he
      clear zX0 zX1 zX2 zX3 zX4 zX5 zX6
      have X' := Lib.hid (X.out.below hb)
      clear X
      have X := X'
      clear X'
      have HB' := Lib.hid (HB.out.trans (hb.mono HB.out.size))
      clear HB
      have HB := HB'
      clear HB'
      clear hb
      have Na := Lib.hid hNa
      clear hNa
      have Ea := Lib.hid hEa
      clear hEa
      have neXQa := Lib.hid (Nat.ne_of_lt X.out.lt)
      have geQa := Lib.hid HB.out.size
      have hb := al_below w3 (.cells #[.bool S1, (.slice Aa la ca), (.slice Ba ma da)] 48)
      have Na' := Lib.hid (Na.out.up hb)
      clear Na
      have Na := Na'
      clear Na'
      have Ea' := Lib.hid (Ea.out.up hb)
      clear Ea
      have Ea := Ea'
      clear Ea'
      have X' := Lib.hid (X.out.below hb)
      clear X
      have X := X'
      clear X'
      have HB' := Lib.hid (HB.out.trans (hb.mono HB.out.size))
      clear HB
      have HB := HB'
      clear HB'
      clear hb
      have Qa := Lib.hid (QB.new w3 S1 (.slice Aa la ca) (.slice Ba ma da))
      have zX0 := X.out.c0
      have zX1 := X.out.c1
      have zX2 := X.out.c2
      have zX3 := X.out.c3
      have zX4 := X.out.c4
      have zX5 := X.out.c5
      have zX6 := X.out.c6
      have zQa0 := Qa.out.c0
      have zQa1 := Qa.out.c1
      have zQa2 := Qa.out.c2
      go_wp2_with fail
      generalize w3.alloc (.cells #[.bool S1, (.slice Aa la ca), (.slice Ba ma da)] 48) = wQa at *
      generalize w3.heap.size = gQa at *
      refine (R1.out _ HB.out).mono ?_
      rintro e w4 ⟨Ab, lb, cb, Bb, mb, db, he, hNb, hEb, hb⟩
      subst he
      clear zX0 zX1 zX2 zX3 zX4 zX5 zX6 zQa0 zQa1 zQa2
      have Na' := Lib.hid (Na.out.up hb)
      clear Na
      have Na := Na'
      clear Na'
      have Ea' := Lib.hid (Ea.out.up hb)
      clear Ea
      have Ea := Ea'
      clear Ea'
      have Qa' := Lib.hid (Qa.out.below hb Qa.out.lt)
      clear Qa
      have Qa := Qa'
      clear Qa'
      have X' := Lib.hid (X.out.below hb)
      clear X
      have X := X'
      clear X'
      have HB' := Lib.hid (HB.out.trans (hb.mono HB.out.size))
      clear HB
      have HB := HB'
      clear HB'
      clear hb
      have Nb := Lib.hid hNb
      clear hNb
      have Eb := Lib.hid hEb
      clear hEb
      have neQaQb := Lib.hid (Nat.ne_of_lt Qa.out.lt)
      have neXQb := Lib.hid (Nat.ne_of_lt X.out.lt)
      have geQb := Lib.hid HB.out.size
      have hb := al_below w4 (.cells #[.bool S1, (.slice Ab lb cb), (.slice Bb mb db)] 48)
      have Na' := Lib.hid (Na.out.up hb)
      clear Na
      have Na := Na'
      clear Na'
      have Ea' := Lib.hid (Ea.out.up hb)
      clear Ea
      have Ea := Ea'
      clear Ea'
      have Nb' := Lib.hid (Nb.out.up hb)
      clear Nb
      have Nb := Nb'
      clear Nb'
      have Eb' := Lib.hid (Eb.out.up hb)
      clear Eb
      have Eb := Eb'
      clear Eb'
      have Qa' := Lib.hid (Qa.out.below hb Qa.out.lt)
      clear Qa
      have Qa := Qa'
      clear Qa'
      have X' := Lib.hid (X.out.below hb)
      clear X
      have X := X'
      clear X'
      have HB' := Lib.hid (HB.out.trans (hb.mono HB.out.size))
      clear HB
      have HB := HB'
      clear HB'
      clear hb
      have Qb := Lib.hid (QB.new w4 S1 (.slice Ab lb cb) (.slice Bb mb db))
      have zX0 := X.out.c0
      have zX1 := X.out.c1
      have zX2 := X.out.c2
      have zX3 := X.out.c3
      have zX4 := X.out.c4
      have zX5 := X.out.c5
      have zX6 := X.out.c6
      have zQa0 := Qa.out.c0
      have zQa1 := Qa.out.c1
      have zQa2 := Qa.out.c2
      have zQb0 := Qb.out.c0
      have zQb1 := Qb.out.c1
      have zQb2 := Qb.out.c2
      go_wp2_with fail
      generalize w4.alloc (.cells #[.bool S1, (.slice Ab lb cb), (.slice Bb mb db)] 48) = wQb at *
      generalize w4.heap.size = gQb at *
      refine (H2.out _ HB.out).mono ?_
      rintro e w5 ⟨Ac, lc, cc, Bc, mc, dc, he, hNc, hEc, hb⟩
      subst he
      clear zX0 zX1 zX2 zX3 zX4 zX5 zX6 zQa0 zQa1 zQa2 zQb0 zQb1 zQb2
      have Na' := Lib.hid (Na.out.up hb)
      clear Na
      have Na := Na'
      clear Na'
      have Ea' := Lib.hid (Ea.out.up hb)
      clear Ea
      have Ea := Ea'
      clear Ea'
      have Nb' := Lib.hid (Nb.out.up hb)
      clear Nb
      have Nb := Nb'
      clear Nb'
      have Eb' := Lib.hid (Eb.out.up hb)
      clear Eb
      have Eb := Eb'
      clear Eb'
      have Qa' := Lib.hid (Qa.out.below hb Qa.out.lt)
      clear Qa
      have Qa := Qa'
      clear Qa'
      have Qb' := Lib.hid (Qb.out.below hb Qb.out.lt)
      clear Qb
      have Qb := Qb'
      clear Qb'
      have X' := Lib.hid (X.out.below hb)
      clear X
      have X := X'
      clear X'
      have HB' := Lib.hid (HB.out.trans (hb.mono HB.out.size))
      clear HB
      have HB := HB'
      clear HB'
      clear hb
      have Nc := Lib.hid hNc
      clear hNc
      have Ec := Lib.hid hEc
      clear hEc
      have neQaQc := Lib.hid (Nat.ne_of_lt Qa.out.lt)
      have neQbQc := Lib.hid (Nat.ne_of_lt Qb.out.lt)
      have neXQc := Lib.hid (Nat.ne_of_lt X.out.lt)
      have geQc := Lib.hid HB.out.size
      have hb := al_below w5 (.cells #[.bool S2, (.slice Ac lc cc), (.slice Bc mc dc)] 48)
      have Na' := Lib.hid (Na.out.up hb)
      clear Na
      have Na := Na'
      clear Na'
      have Ea' := Lib.hid (Ea.out.up hb)
      clear Ea
      have Ea := Ea'
      clear Ea'
      have Nb' := Lib.hid (Nb.out.up hb)
      clear Nb
      have Nb := Nb'
      clear Nb'
      have Eb' := Lib.hid (Eb.out.up hb)
      clear Eb
      have Eb := Eb'
      clear Eb'
      have Nc' := Lib.hid (Nc.out.up hb)
      clear Nc
      have Nc := Nc'
      clear Nc'
      have Ec' := Lib.hid (Ec.out.up hb)
      clear Ec
      have Ec := Ec'
      clear Ec'
      have Qa' := Lib.hid (Qa.out.below hb Qa.out.lt)
      clear Qa
      have Qa := Qa'
      clear Qa'
      have Qb' := Lib.hid (Qb.out.below hb Qb.out.lt)
      clear Qb
      have Qb := Qb'
      clear Qb'
      have X' := Lib.hid (X.out.below hb)
      clear X
      have X := X'
      clear X'
      have HB' := Lib.hid (HB.out.trans (hb.mono HB.out.size))
      clear HB
      have HB := HB'
      clear HB'
      clear hb
      have Qc := Lib.hid (QB.new w5 S2 (.slice Ac lc cc) (.slice Bc mc dc))
      have zX0 := X.out.c0
      have zX1 := X.out.c1
      have zX2 := X.out.c2
      have zX3 := X.out.c3
      have zX4 := X.out.c4
      have zX5 := X.out.c5
      have zX6 := X.out.c6
      have zQa0 := Qa.out.c0
      have zQa1 := Qa.out.c1
      have zQa2 := Qa.out.c2
      have zQb0 := Qb.out.c0
      have zQb1 := Qb.out.c1
      have zQb2 := Qb.out.c2
      have zQc0 := Qc.out.c0
      have zQc1 := Qc.out.c1
      have zQc2 := Qc.out.c2
      go_wp2_with fail
      generalize w5.alloc (.cells #[.bool S2, (.slice Ac lc cc), (.slice Bc mc dc)] 48) = wQc at *
      generalize w5.heap.size = gQc at *
      refine (R2.out _ HB.out).mono ?_
      rintro e w6 ⟨Ad, ld, cd, Bd, md, dd, he, hNd, hEd, hb⟩
      subst he
      clear zX0 zX1 zX2 zX3 zX4 zX5 zX6 zQa0 zQa1 zQa2 zQb0 zQb1 zQb2 zQc0 zQc1 zQc2
      have Na' := Lib.hid (Na.out.up hb)
      clear Na
      have Na := Na'
      clear Na'
      have Ea' := Lib.hid (Ea.out.up hb)
      clear Ea
      have Ea := Ea'
      clear Ea'
      have Nb' := Lib.hid (Nb.out.up hb)
      clear Nb
      have Nb := Nb'
      clear Nb'
      have Eb' := Lib.hid (Eb.out.up hb)
      clear Eb
      have Eb := Eb'
      clear Eb'
      have Nc' := Lib.hid (Nc.out.up hb)
      clear Nc
      have Nc := Nc'
      clear Nc'
      have Ec' := Lib.hid (Ec.out.up hb)
      clear Ec
      have Ec := Ec'
      clear Ec'
      have Qa' := Lib.hid (Qa.out.below hb Qa.out.lt)
      clear Qa
      have Qa := Qa'
      clear Qa'
      have Qb' := Lib.hid (Qb.out.below hb Qb.out.lt)
      clear Qb
      have Qb := Qb'
      clear Qb'
      have Qc' := Lib.hid (Qc.out.below hb Qc.out.lt)
      clear Qc
      have Qc := Qc'
      clear Qc'
      have X' := Lib.hid (X.out.below hb)
      clear X
      have X := X'
      clear X'
      have HB' := Lib.hid (HB.out.trans (hb.mono HB.out.size))
      clear HB
      have HB := HB'
      clear HB'
      clear hb
      have Nd := Lib.hid hNd
      clear hNd
      have Ed := Lib.hid hEd
      clear hEd
      have neQaQd := Lib.hid (Nat.ne_of_lt Qa.out.lt)
      have neQbQd := Lib.hid (Nat.ne_of_lt Qb.out.lt)
      have neQcQd := Lib.hid (Nat.ne_of_lt Qc.out.lt)
      have neXQd := Lib.hid (Nat.ne_of_lt X.out.lt)
      have geQd := Lib.hid HB.out.size
      have hb := al_below w6 (.cells #[.bool S2, (.slice Ad ld cd), (.slice Bd md dd)] 48)
      have Na' := Lib.hid (Na.out.up hb)
      clear Na
      have Na := Na'
      clear Na'
      have Ea' := Lib.hid (Ea.out.up hb)
      clear Ea
      have Ea := Ea'
      clear Ea'
      have Nb' := Lib.hid (Nb.out.up hb)
      clear Nb
      have Nb := Nb'
      clear Nb'
      have Eb' := Lib.hid (Eb.out.up hb)
      clear Eb
      have Eb := Eb'
      clear Eb'
      have Nc' := Lib.hid (Nc.out.up hb)
      clear Nc
      have Nc := Nc'
      clear Nc'
      have Ec' := Lib.hid (Ec.out.up hb)
      clear Ec
      have Ec := Ec'
      clear Ec'
      have Nd' := Lib.hid (Nd.out.up hb)
      clear Nd
      have Nd := Nd'
      clear Nd'
      have Ed' := Lib.hid (Ed.out.up hb)
      clear Ed
      have Ed := Ed'
      clear Ed'
      have Qa' := Lib.hid (Qa.out.below hb Qa.out.lt)
      clear Qa
      have Qa := Qa'
      clear Qa'
      have Qb' := Lib.hid (Qb.out.below hb Qb.out.lt)
      clear Qb
      have Qb := Qb'
      clear Qb'
      have Qc' := Lib.hid (Qc.out.below hb Qc.out.lt)
      clear Qc
      have Qc := Qc'
      clear Qc'
      have X' := Lib.hid (X.out.below hb)
      clear X
      have X := X'
      clear X'
      have HB' := Lib.hid (HB.out.trans (hb.mono HB.out.size))
      clear HB
      have HB := HB'
      clear HB'
      clear hb
      have Qd := Lib.hid (QB.new w6 S2 (.slice Ad ld cd) (.slice Bd md dd))
      have zX0 := X.out.c0
      have zX1 := X.out.c1
      have zX2 := X.out.c2
      have zX3 := X.out.c3
      have zX4 := X.out.c4
      have zX5 := X.out.c5
      have zX6 := X.out.c6
      have zQa0 := Qa.out.c0
      have zQa1 := Qa.out.c1
      have zQa2 := Qa.out.c2
      have zQb0 := Qb.out.c0
      have zQb1 := Qb.out.c1
      have zQb2 := Qb.out.c2
      have zQc0 := Qc.out.c0
      have zQc1 := Qc.out.c1
      have zQc2 := Qc.out.c2
      have zQd0 := Qd.out.c0
      have zQd1 := Qd.out.c1
      have zQd2 := Qd.out.c2
      go_wp2_with fail
      generalize w6.alloc (.cells #[.bool S2, (.slice Ad ld cd), (.slice Bd md dd)] 48) = wQd at *
      generalize w6.heap.size = gQd at *
      refine (aw_sameQ _ _ _ _ _ _ _ _ Na.out Ea.out Nb.out Eb.out).mono ?_
      rintro e w7 ⟨he, hb⟩
      subst he
      clear zX0 zX1 zX2 zX3 zX4 zX5 zX6 zQa0 zQa1 zQa2 zQb0 zQb1 zQb2 zQc0 zQc1 zQc2 zQd0 zQd1 zQd2
      have Na' := Lib.hid (Na.out.up hb)
      clear Na
      have Na := Na'
      clear Na'
      have Ea' := Lib.hid (Ea.out.up hb)
      clear Ea
      have Ea := Ea'
      clear Ea'
      have Nb' := Lib.hid (Nb.out.up hb)
      clear Nb
      have Nb := Nb'
      clear Nb'
      have Eb' := Lib.hid (Eb.out.up hb)
      clear Eb
      have Eb := Eb'
      clear Eb'
      have Nc' := Lib.hid (Nc.out.up hb)
      clear Nc
      have Nc := Nc'
      clear Nc'
      have Ec' := Lib.hid (Ec.out.up hb)
      clear Ec
      have Ec := Ec'
      clear Ec'
      have Nd' := Lib.hid (Nd.out.up hb)
      clear Nd
      have Nd := Nd'
      clear Nd'
      have Ed' := Lib.hid (Ed.out.up hb)
      clear Ed
      have Ed := Ed'
      clear Ed'
      have Qa' := Lib.hid (Qa.out.below hb Qa.out.lt)
      clear Qa
      have Qa := Qa'
      clear Qa'
      have Qb' := Lib.hid (Qb.out.below hb Qb.out.lt)
      clear Qb
      have Qb := Qb'
      clear Qb'
      have Qc' := Lib.hid (Qc.out.below hb Qc.out.lt)
      clear Qc
      have Qc := Qc'
      clear Qc'
      have Qd' := Lib.hid (Qd.out.below hb Qd.out.lt)
      clear Qd
      have Qd := Qd'
      clear Qd'
      have X' := Lib.hid (X.out.below hb)
      clear X
      have X := X'
      clear X'
      have HB' := Lib.hid (HB.out.trans (hb.mono HB.out.size))
      clear HB
      have HB := HB'
      clear HB'
      clear hb
      have zX0 := X.out.c0
      have zX1 := X.out.c1
      have zX2 := X.out.c2
      have zX3 := X.out.c3
      have zX4 := X.out.c4
      have zX5 := X.out.c5
      have zX6 := X.out.c6
      have zQa0 := Qa.out.c0
      have zQa1 := Qa.out.c1
      have zQa2 := Qa.out.c2
      have zQb0 := Qb.out.c0
      have zQb1 := Qb.out.c1
      have zQb2 := Qb.out.c2
      have zQc0 := Qc.out.c0
      have zQc1 := Qc.out.c1
      have zQc2 := Qc.out.c2
      have zQd0 := Qd.out.c0
      have zQd1 := Qd.out.c1
      have zQd2 := Qd.out.c2
      go_wp2_with fail
      refine (aw_sameQ _ _ _ _ _ _ _ _ Nc.out Ec.out Nd.out Ed.out).mono ?_
      rintro e w8 ⟨he, hb⟩
      subst he
      clear zX0 zX1 zX2 zX3 zX4 zX5 zX6 zQa0 zQa1 zQa2 zQb0 zQb1 zQb2 zQc0 zQc1 zQc2 zQd0 zQd1 zQd2
      have Na' := Lib.hid (Na.out.up hb)
      clear Na
      have Na := Na'
      clear Na'
      have Ea' := Lib.hid (Ea.out.up hb)
      clear Ea
      have Ea := Ea'
      clear Ea'
      have Nb' := Lib.hid (Nb.out.up hb)
      clear Nb
      have Nb := Nb'
      clear Nb'
      have Eb' := Lib.hid (Eb.out.up hb)
      clear Eb
      have Eb := Eb'
      clear Eb'
      have Nc' := Lib.hid (Nc.out.up hb)
      clear Nc
      have Nc := Nc'
      clear Nc'
      have Ec' := Lib.hid (Ec.out.up hb)
      clear Ec
      have Ec := Ec'
      clear Ec'
      have Nd' := Lib.hid (Nd.out.up hb)
      clear Nd
      have Nd := Nd'
      clear Nd'
      have Ed' := Lib.hid (Ed.out.up hb)
      clear Ed
      have Ed := Ed'
      clear Ed'
      have Qa' := Lib.hid (Qa.out.below hb Qa.out.lt)
      clear Qa
      have Qa := Qa'
      clear Qa'
      have Qb' := Lib.hid (Qb.out.below hb Qb.out.lt)
      clear Qb
      have Qb := Qb'
      clear Qb'
      have Qc' := Lib.hid (Qc.out.below hb Qc.out.lt)
      clear Qc
      have Qc := Qc'
      clear Qc'
      have Qd' := Lib.hid (Qd.out.below hb Qd.out.lt)
      clear Qd
      have Qd := Qd'
      clear Qd'
      have X' := Lib.hid (X.out.below hb)
      clear X
      have X := X'
      clear X'
      have HB' := Lib.hid (HB.out.trans (hb.mono HB.out.size))
      clear HB
      have HB := HB'
      clear HB'
      clear hb
      have zX0 := X.out.c0
      have zX1 := X.out.c1
      have zX2 := X.out.c2
      have zX3 := X.out.c3
      have zX4 := X.out.c4
      have zX5 := X.out.c5
      have zX6 := X.out.c6
      have zQa0 := Qa.out.c0
      have zQa1 := Qa.out.c1
      have zQa2 := Qa.out.c2
      have zQb0 := Qb.out.c0
      have zQb1 := Qb.out.c1
      have zQb2 := Qb.out.c2
      have zQc0 := Qc.out.c0
      have zQc1 := Qc.out.c1
      have zQc2 := Qc.out.c2
      have zQd0 := Qd.out.c0
      have zQd1 := Qd.out.c1
      have zQd2 := Qd.out.c2
      go_wp2_with fail
      refine (H3.out _ HB.out).mono ?_
      rintro e w9 ⟨Ap, lp, cp, Bp, mp, dp, he, hNp, hEp, hb⟩
      subst he
      clear zX0 zX1 zX2 zX3 zX4 zX5 zX6 zQa0 zQa1 zQa2 zQb0 zQb1 zQb2 zQc0 zQc1 zQc2 zQd0 zQd1 zQd2
      have Na' := Lib.hid (Na.out.up hb)
      clear Na
      have Na := Na'
      clear Na'
      have Ea' := Lib.hid (Ea.out.up hb)
      clear Ea
      have Ea := Ea'
      clear Ea'
      have Nb' := Lib.hid (Nb.out.up hb)
      clear Nb
      have Nb := Nb'
      clear Nb'
      have Eb' := Lib.hid (Eb.out.up hb)
      clear Eb
      have Eb := Eb'
      clear Eb'
      have Nc' := Lib.hid (Nc.out.up hb)
      clear Nc
      have Nc := Nc'
      clear Nc'
      have Ec' := Lib.hid (Ec.out.up hb)
      clear Ec
      have Ec := Ec'
      clear Ec'
      have Nd' := Lib.hid (Nd.out.up hb)
      clear Nd
      have Nd := Nd'
      clear Nd'
      have Ed' := Lib.hid (Ed.out.up hb)
      clear Ed
      have Ed := Ed'
      clear Ed'
      have Qa' := Lib.hid (Qa.out.below hb Qa.out.lt)
      clear Qa
      have Qa := Qa'
      clear Qa'
      have Qb' := Lib.hid (Qb.out.below hb Qb.out.lt)
      clear Qb
      have Qb := Qb'
      clear Qb'
      have Qc' := Lib.hid (Qc.out.below hb Qc.out.lt)
      clear Qc
      have Qc := Qc'
      clear Qc'
      have Qd' := Lib.hid (Qd.out.below hb Qd.out.lt)
      clear Qd
      have Qd := Qd'
      clear Qd'
      have X' := Lib.hid (X.out.below hb)
      clear X
      have X := X'
      clear X'
      have HB' := Lib.hid (HB.out.trans (hb.mono HB.out.size))
      clear HB
      have HB := HB'
      clear HB'
      clear hb
      have Np := Lib.hid hNp
      clear hNp
      have Ep := Lib.hid hEp
      clear hEp
      have zX0 := X.out.c0
      have zX1 := X.out.c1
      have zX2 := X.out.c2
      have zX3 := X.out.c3
      have zX4 := X.out.c4
      have zX5 := X.out.c5
      have zX6 := X.out.c6
      have zQa0 := Qa.out.c0
      have zQa1 := Qa.out.c1
      have zQa2 := Qa.out.c2
      have zQb0 := Qb.out.c0
      have zQb1 := Qb.out.c1
      have zQb2 := Qb.out.c2
      have zQc0 := Qc.out.c0
      have zQc1 := Qc.out.c1
      have zQc2 := Qc.out.c2
      have zQd0 := Qd.out.c0
      have zQd1 := Qd.out.c1
      have zQd2 := Qd.out.c2
      have yQa0 := Qa.out.fr 0
      have yQa1 := Qa.out.fr 1
      have yQa2 := Qa.out.fr 2
      have kX0 := cell_other3 (k := gQa) zX0 neXQa.out (.bool S3) (.slice Ap lp cp) (.slice Bp mp dp)
      have kX1 := cell_other3 (k := gQa) zX1 neXQa.out (.bool S3) (.slice Ap lp cp) (.slice Bp mp dp)
      have kX2 := cell_other3 (k := gQa) zX2 neXQa.out (.bool S3) (.slice Ap lp cp) (.slice Bp mp dp)
      have kX3 := cell_other3 (k := gQa) zX3 neXQa.out (.bool S3) (.slice Ap lp cp) (.slice Bp mp dp)
      have kX4 := cell_other3 (k := gQa) zX4 neXQa.out (.bool S3) (.slice Ap lp cp) (.slice Bp mp dp)
      have kX5 := cell_other3 (k := gQa) zX5 neXQa.out (.bool S3) (.slice Ap lp cp) (.slice Bp mp dp)
      have kQb0 := cell_other3 (k := gQa) zQb0 (Ne.symm neQaQb.out) (.bool S3) (.slice Ap lp cp) (.slice Bp mp dp)
      have kQb1 := cell_other3 (k := gQa) zQb1 (Ne.symm neQaQb.out) (.bool S3) (.slice Ap lp cp) (.slice Bp mp dp)
      have kQb2 := cell_other3 (k := gQa) zQb2 (Ne.symm neQaQb.out) (.bool S3) (.slice Ap lp cp) (.slice Bp mp dp)
      have kQc0 := cell_other3 (k := gQa) zQc0 (Ne.symm neQaQc.out) (.bool S3) (.slice Ap lp cp) (.slice Bp mp dp)
      have kQc1 := cell_other3 (k := gQa) zQc1 (Ne.symm neQaQc.out) (.bool S3) (.slice Ap lp cp) (.slice Bp mp dp)
      have kQc2 := cell_other3 (k := gQa) zQc2 (Ne.symm neQaQc.out) (.bool S3) (.slice Ap lp cp) (.slice Bp mp dp)
      have kQd0 := cell_other3 (k := gQa) zQd0 (Ne.symm neQaQd.out) (.bool S3) (.slice Ap lp cp) (.slice Bp mp dp)
      have kQd1 := cell_other3 (k := gQa) zQd1 (Ne.symm neQaQd.out) (.bool S3) (.slice Ap lp cp) (.slice Bp mp dp)
      have kQd2 := cell_other3 (k := gQa) zQd2 (Ne.symm neQaQd.out) (.bool S3) (.slice Ap lp cp) (.slice Bp mp dp)
      go_wp2_with fail
      clear zX0 zX1 zX2 zX3 zX4 zX5 zX6 zQa0 zQa1 zQa2 zQb0 zQb1 zQb2 zQc0 zQc1 zQc2 zQd0 zQd1 zQd2 yQa0 yQa1 yQa2 kX0 kX1 kX2 kX3 kX4 kX5 kQb0 kQb1 kQb2 kQc0 kQc1 kQc2 kQd0 kQd1 kQd2
      have Na' := Lib.hid (Na.out.rewrote Qa.out S3 (.slice Ap lp cp) (.slice Bp mp dp))
      clear Na
      have Na := Na'
      clear Na'
      have Ea' := Lib.hid (Ea.out.rewrote Qa.out S3 (.slice Ap lp cp) (.slice Bp mp dp))
      clear Ea
      have Ea := Ea'
      clear Ea'
      have Nb' := Lib.hid (Nb.out.rewrote Qa.out S3 (.slice Ap lp cp) (.slice Bp mp dp))
      clear Nb
      have Nb := Nb'
      clear Nb'
      have Eb' := Lib.hid (Eb.out.rewrote Qa.out S3 (.slice Ap lp cp) (.slice Bp mp dp))
      clear Eb
      have Eb := Eb'
      clear Eb'
      have Nc' := Lib.hid (Nc.out.rewrote Qa.out S3 (.slice Ap lp cp) (.slice Bp mp dp))
      clear Nc
      have Nc := Nc'
      clear Nc'
      have Ec' := Lib.hid (Ec.out.rewrote Qa.out S3 (.slice Ap lp cp) (.slice Bp mp dp))
      clear Ec
      have Ec := Ec'
      clear Ec'
      have Nd' := Lib.hid (Nd.out.rewrote Qa.out S3 (.slice Ap lp cp) (.slice Bp mp dp))
      clear Nd
      have Nd := Nd'
      clear Nd'
      have Ed' := Lib.hid (Ed.out.rewrote Qa.out S3 (.slice Ap lp cp) (.slice Bp mp dp))
      clear Ed
      have Ed := Ed'
      clear Ed'
      have Np' := Lib.hid (Np.out.rewrote Qa.out S3 (.slice Ap lp cp) (.slice Bp mp dp))
      clear Np
      have Np := Np'
      clear Np'
      have Ep' := Lib.hid (Ep.out.rewrote Qa.out S3 (.slice Ap lp cp) (.slice Bp mp dp))
      clear Ep
      have Ep := Ep'
      clear Ep'
      have Qb' := Lib.hid (Qb.out.wroteOther (neg' := S3) (vn' := (.slice Ap lp cp)) (vd' := (.slice Bp mp dp)) (Ne.symm neQaQb.out))
      clear Qb
      have Qb := Qb'
      clear Qb'
      have Qc' := Lib.hid (Qc.out.wroteOther (neg' := S3) (vn' := (.slice Ap lp cp)) (vd' := (.slice Bp mp dp)) (Ne.symm neQaQc.out))
      clear Qc
      have Qc := Qc'
      clear Qc'
      have Qd' := Lib.hid (Qd.out.wroteOther (neg' := S3) (vn' := (.slice Ap lp cp)) (vd' := (.slice Bp mp dp)) (Ne.symm neQaQd.out))
      clear Qd
      have Qd := Qd'
      clear Qd'
      have X' := Lib.hid (X.out.wroteOther (neg' := S3) (vn' := (.slice Ap lp cp)) (vd' := (.slice Bp mp dp)) neXQa.out)
      clear X
      have X := X'
      clear X'
      have HB' := Lib.hid (wroteQ_below HB.out geQa.out S3 (.slice Ap lp cp) (.slice Bp mp dp))
      clear HB
      have HB := HB'
      clear HB'
      have Qa' := Lib.hid (Qa.out.write S3 (.slice Ap lp cp) (.slice Bp mp dp))
      clear Qa
      have Qa := Qa'
      clear Qa'
      change Calls _ _ _ (wroteQ w9 gQa S3 (.slice Ap lp cp) (.slice Bp mp dp)) _
      generalize wroteQ w9 gQa S3 (.slice Ap lp cp) (.slice Bp mp dp) = v9Qa at *
      refine (R3.out _ HB.out).mono ?_
      rintro e w10 ⟨Aq, lq, cq, Bq, mq, dq, he, hNq, hEq, hb⟩
      subst he
      have Na' := Lib.hid (Na.out.up hb)
      clear Na
      have Na := Na'
      clear Na'
      have Ea' := Lib.hid (Ea.out.up hb)
      clear Ea
      have Ea := Ea'
      clear Ea'
      have Nb' := Lib.hid (Nb.out.up hb)
      clear Nb
      have Nb := Nb'
      clear Nb'
      have Eb' := Lib.hid (Eb.out.up hb)
      clear Eb
      have Eb := Eb'
      clear Eb'
      have Nc' := Lib.hid (Nc.out.up hb)
      clear Nc
      have Nc := Nc'
      clear Nc'
      have Ec' := Lib.hid (Ec.out.up hb)
      clear Ec
      have Ec := Ec'
      clear Ec'
      have Nd' := Lib.hid (Nd.out.up hb)
      clear Nd
      have Nd := Nd'
      clear Nd'
      have Ed' := Lib.hid (Ed.out.up hb)
      clear Ed
      have Ed := Ed'
      clear Ed'
      have Np' := Lib.hid (Np.out.up hb)
      clear Np
      have Np := Np'
      clear Np'
      have Ep' := Lib.hid (Ep.out.up hb)
      clear Ep
      have Ep := Ep'
      clear Ep'
      have Qa' := Lib.hid (Qa.out.below hb Qa.out.lt)
      clear Qa
      have Qa := Qa'
      clear Qa'
      have Qb' := Lib.hid (Qb.out.below hb Qb.out.lt)
      clear Qb
      have Qb := Qb'
      clear Qb'
      have Qc' := Lib.hid (Qc.out.below hb Qc.out.lt)
      clear Qc
      have Qc := Qc'
      clear Qc'
      have Qd' := Lib.hid (Qd.out.below hb Qd.out.lt)
      clear Qd
      have Qd := Qd'
      clear Qd'
      have X' := Lib.hid (X.out.below hb)
      clear X
      have X := X'
      clear X'
      have HB' := Lib.hid (HB.out.trans (hb.mono HB.out.size))
      clear HB
      have HB := HB'
      clear HB'
      clear hb
      have Nq := Lib.hid hNq
      clear hNq
      have Eq := Lib.hid hEq
      clear hEq
      have zX0 := X.out.c0
      have zX1 := X.out.c1
      have zX2 := X.out.c2
      have zX3 := X.out.c3
      have zX4 := X.out.c4
      have zX5 := X.out.c5
      have zX6 := X.out.c6
      have zQa0 := Qa.out.c0
      have zQa1 := Qa.out.c1
      have zQa2 := Qa.out.c2
      have zQb0 := Qb.out.c0
      have zQb1 := Qb.out.c1
      have zQb2 := Qb.out.c2
      have zQc0 := Qc.out.c0
      have zQc1 := Qc.out.c1
      have zQc2 := Qc.out.c2
      have zQd0 := Qd.out.c0
      have zQd1 := Qd.out.c1
      have zQd2 := Qd.out.c2
      have yQb0 := Qb.out.fr 0
      have yQb1 := Qb.out.fr 1
      have yQb2 := Qb.out.fr 2
      have kX0 := cell_other3 (k := gQb) zX0 neXQb.out (.bool S3) (.slice Aq lq cq) (.slice Bq mq dq)
      have kX1 := cell_other3 (k := gQb) zX1 neXQb.out (.bool S3) (.slice Aq lq cq) (.slice Bq mq dq)
      have kX2 := cell_other3 (k := gQb) zX2 neXQb.out (.bool S3) (.slice Aq lq cq) (.slice Bq mq dq)
      have kX3 := cell_other3 (k := gQb) zX3 neXQb.out (.bool S3) (.slice Aq lq cq) (.slice Bq mq dq)
      have kX4 := cell_other3 (k := gQb) zX4 neXQb.out (.bool S3) (.slice Aq lq cq) (.slice Bq mq dq)
      have kX5 := cell_other3 (k := gQb) zX5 neXQb.out (.bool S3) (.slice Aq lq cq) (.slice Bq mq dq)
      have kQa0 := cell_other3 (k := gQb) zQa0 neQaQb.out (.bool S3) (.slice Aq lq cq) (.slice Bq mq dq)
      have kQa1 := cell_other3 (k := gQb) zQa1 neQaQb.out (.bool S3) (.slice Aq lq cq) (.slice Bq mq dq)
      have kQa2 := cell_other3 (k := gQb) zQa2 neQaQb.out (.bool S3) (.slice Aq lq cq) (.slice Bq mq dq)
      have kQc0 := cell_other3 (k := gQb) zQc0 (Ne.symm neQbQc.out) (.bool S3) (.slice Aq lq cq) (.slice Bq mq dq)
      have kQc1 := cell_other3 (k := gQb) zQc1 (Ne.symm neQbQc.out) (.bool S3) (.slice Aq lq cq) (.slice Bq mq dq)
      have kQc2 := cell_other3 (k := gQb) zQc2 (Ne.symm neQbQc.out) (.bool S3) (.slice Aq lq cq) (.slice Bq mq dq)
      have kQd0 := cell_other3 (k := gQb) zQd0 (Ne.symm neQbQd.out) (.bool S3) (.slice Aq lq cq) (.slice Bq mq dq)
      have kQd1 := cell_other3 (k := gQb) zQd1 (Ne.symm neQbQd.out) (.bool S3) (.slice Aq lq cq) (.slice Bq mq dq)
      have kQd2 := cell_other3 (k := gQb) zQd2 (Ne.symm neQbQd.out) (.bool S3) (.slice Aq lq cq) (.slice Bq mq dq)
      go_wp2_with fail
      clear zX0 zX1 zX2 zX3 zX4 zX5 zX6 zQa0 zQa1 zQa2 zQb0 zQb1 zQb2 zQc0 zQc1 zQc2 zQd0 zQd1 zQd2 yQb0 yQb1 yQb2 kX0 kX1 kX2 kX3 kX4 kX5 kQa0 kQa1 kQa2 kQc0 kQc1 kQc2 kQd0 kQd1 kQd2
      have Na' := Lib.hid (Na.out.rewrote Qb.out S3 (.slice Aq lq cq) (.slice Bq mq dq))
      clear Na
      have Na := Na'
      clear Na'
      have Ea' := Lib.hid (Ea.out.rewrote Qb.out S3 (.slice Aq lq cq) (.slice Bq mq dq))
      clear Ea
      have Ea := Ea'
      clear Ea'
      have Nb' := Lib.hid (Nb.out.rewrote Qb.out S3 (.slice Aq lq cq) (.slice Bq mq dq))
      clear Nb
      have Nb := Nb'
      clear Nb'
      have Eb' := Lib.hid (Eb.out.rewrote Qb.out S3 (.slice Aq lq cq) (.slice Bq mq dq))
      clear Eb
      have Eb := Eb'
      clear Eb'
      have Nc' := Lib.hid (Nc.out.rewrote Qb.out S3 (.slice Aq lq cq) (.slice Bq mq dq))
      clear Nc
      have Nc := Nc'
      clear Nc'
      have Ec' := Lib.hid (Ec.out.rewrote Qb.out S3 (.slice Aq lq cq) (.slice Bq mq dq))
      clear Ec
      have Ec := Ec'
      clear Ec'
      have Nd' := Lib.hid (Nd.out.rewrote Qb.out S3 (.slice Aq lq cq) (.slice Bq mq dq))
      clear Nd
      have Nd := Nd'
      clear Nd'
      have Ed' := Lib.hid (Ed.out.rewrote Qb.out S3 (.slice Aq lq cq) (.slice Bq mq dq))
      clear Ed
      have Ed := Ed'
      clear Ed'
      have Np' := Lib.hid (Np.out.rewrote Qb.out S3 (.slice Aq lq cq) (.slice Bq mq dq))
      clear Np
      have Np := Np'
      clear Np'
      have Ep' := Lib.hid (Ep.out.rewrote Qb.out S3 (.slice Aq lq cq) (.slice Bq mq dq))
      clear Ep
      have Ep := Ep'
      clear Ep'
      have Nq' := Lib.hid (Nq.out.rewrote Qb.out S3 (.slice Aq lq cq) (.slice Bq mq dq))
      clear Nq
      have Nq := Nq'
      clear Nq'
      have Eq' := Lib.hid (Eq.out.rewrote Qb.out S3 (.slice Aq lq cq) (.slice Bq mq dq))
      clear Eq
      have Eq := Eq'
      clear Eq'
      have Qa' := Lib.hid (Qa.out.wroteOther (neg' := S3) (vn' := (.slice Aq lq cq)) (vd' := (.slice Bq mq dq)) neQaQb.out)
      clear Qa
      have Qa := Qa'
      clear Qa'
      have Qc' := Lib.hid (Qc.out.wroteOther (neg' := S3) (vn' := (.slice Aq lq cq)) (vd' := (.slice Bq mq dq)) (Ne.symm neQbQc.out))
      clear Qc
      have Qc := Qc'
      clear Qc'
      have Qd' := Lib.hid (Qd.out.wroteOther (neg' := S3) (vn' := (.slice Aq lq cq)) (vd' := (.slice Bq mq dq)) (Ne.symm neQbQd.out))
      clear Qd
      have Qd := Qd'
      clear Qd'
      have X' := Lib.hid (X.out.wroteOther (neg' := S3) (vn' := (.slice Aq lq cq)) (vd' := (.slice Bq mq dq)) neXQb.out)
      clear X
      have X := X'
      clear X'
      have HB' := Lib.hid (wroteQ_below HB.out geQb.out S3 (.slice Aq lq cq) (.slice Bq mq dq))
      clear HB
      have HB := HB'
      clear HB'
      have Qb' := Lib.hid (Qb.out.write S3 (.slice Aq lq cq) (.slice Bq mq dq))
      clear Qb
      have Qb := Qb'
      clear Qb'
      change Calls _ _ _ (wroteQ w10 gQb S3 (.slice Aq lq cq) (.slice Bq mq dq)) _
      generalize wroteQ w10 gQb S3 (.slice Aq lq cq) (.slice Bq mq dq) = v10Qb at *
      refine (H4.out _ HB.out).mono ?_
      rintro e w11 ⟨Ar, lr, cr, Br, mr, dr, he, hNr, hEr, hb⟩
      subst he
      have Na' := Lib.hid (Na.out.up hb)
      clear Na
      have Na := Na'
      clear Na'
      have Ea' := Lib.hid (Ea.out.up hb)
      clear Ea
      have Ea := Ea'
      clear Ea'
      have Nb' := Lib.hid (Nb.out.up hb)
      clear Nb
      have Nb := Nb'
      clear Nb'
      have Eb' := Lib.hid (Eb.out.up hb)
      clear Eb
      have Eb := Eb'
      clear Eb'
      have Nc' := Lib.hid (Nc.out.up hb)
      clear Nc
      have Nc := Nc'
      clear Nc'
      have Ec' := Lib.hid (Ec.out.up hb)
      clear Ec
      have Ec := Ec'
      clear Ec'
      have Nd' := Lib.hid (Nd.out.up hb)
      clear Nd
      have Nd := Nd'
      clear Nd'
      have Ed' := Lib.hid (Ed.out.up hb)
      clear Ed
      have Ed := Ed'
      clear Ed'
      have Np' := Lib.hid (Np.out.up hb)
      clear Np
      have Np := Np'
      clear Np'
      have Ep' := Lib.hid (Ep.out.up hb)
      clear Ep
      have Ep := Ep'
      clear Ep'
      have Nq' := Lib.hid (Nq.out.up hb)
      clear Nq
      have Nq := Nq'
      clear Nq'
      have Eq' := Lib.hid (Eq.out.up hb)
      clear Eq
      have Eq := Eq'
      clear Eq'
      have Qa' := Lib.hid (Qa.out.below hb Qa.out.lt)
      clear Qa
      have Qa := Qa'
      clear Qa'
      have Qb' := Lib.hid (Qb.out.below hb Qb.out.lt)
      clear Qb
      have Qb := Qb'
      clear Qb'
      have Qc' := Lib.hid (Qc.out.below hb Qc.out.lt)
      clear Qc
      have Qc := Qc'
      clear Qc'
      have Qd' := Lib.hid (Qd.out.below hb Qd.out.lt)
      clear Qd
      have Qd := Qd'
      clear Qd'
      have X' := Lib.hid (X.out.below hb)
      clear X
      have X := X'
      clear X'
      have HB' := Lib.hid (HB.out.trans (hb.mono HB.out.size))
      clear HB
      have HB := HB'
      clear HB'
      clear hb
      have Nr := Lib.hid hNr
      clear hNr
      have Er := Lib.hid hEr
      clear hEr
      have zX0 := X.out.c0
      have zX1 := X.out.c1
      have zX2 := X.out.c2
      have zX3 := X.out.c3
      have zX4 := X.out.c4
      have zX5 := X.out.c5
      have zX6 := X.out.c6
      have zQa0 := Qa.out.c0
      have zQa1 := Qa.out.c1
      have zQa2 := Qa.out.c2
      have zQb0 := Qb.out.c0
      have zQb1 := Qb.out.c1
      have zQb2 := Qb.out.c2
      have zQc0 := Qc.out.c0
      have zQc1 := Qc.out.c1
      have zQc2 := Qc.out.c2
      have zQd0 := Qd.out.c0
      have zQd1 := Qd.out.c1
      have zQd2 := Qd.out.c2
      have yQc0 := Qc.out.fr 0
      have yQc1 := Qc.out.fr 1
      have yQc2 := Qc.out.fr 2
      have kX0 := cell_other3 (k := gQc) zX0 neXQc.out (.bool S4) (.slice Ar lr cr) (.slice Br mr dr)
      have kX1 := cell_other3 (k := gQc) zX1 neXQc.out (.bool S4) (.slice Ar lr cr) (.slice Br mr dr)
      have kX2 := cell_other3 (k := gQc) zX2 neXQc.out (.bool S4) (.slice Ar lr cr) (.slice Br mr dr)
      have kX3 := cell_other3 (k := gQc) zX3 neXQc.out (.bool S4) (.slice Ar lr cr) (.slice Br mr dr)
      have kX4 := cell_other3 (k := gQc) zX4 neXQc.out (.bool S4) (.slice Ar lr cr) (.slice Br mr dr)
      have kX5 := cell_other3 (k := gQc) zX5 neXQc.out (.bool S4) (.slice Ar lr cr) (.slice Br mr dr)
      have kQa0 := cell_other3 (k := gQc) zQa0 neQaQc.out (.bool S4) (.slice Ar lr cr) (.slice Br mr dr)
      have kQa1 := cell_other3 (k := gQc) zQa1 neQaQc.out (.bool S4) (.slice Ar lr cr) (.slice Br mr dr)
      have kQa2 := cell_other3 (k := gQc) zQa2 neQaQc.out (.bool S4) (.slice Ar lr cr) (.slice Br mr dr)
      have kQb0 := cell_other3 (k := gQc) zQb0 neQbQc.out (.bool S4) (.slice Ar lr cr) (.slice Br mr dr)
      have kQb1 := cell_other3 (k := gQc) zQb1 neQbQc.out (.bool S4) (.slice Ar lr cr) (.slice Br mr dr)
      have kQb2 := cell_other3 (k := gQc) zQb2 neQbQc.out (.bool S4) (.slice Ar lr cr) (.slice Br mr dr)
      have kQd0 := cell_other3 (k := gQc) zQd0 (Ne.symm neQcQd.out) (.bool S4) (.slice Ar lr cr) (.slice Br mr dr)
      have kQd1 := cell_other3 (k := gQc) zQd1 (Ne.symm neQcQd.out) (.bool S4) (.slice Ar lr cr) (.slice Br mr dr)
      have kQd2 := cell_other3 (k := gQc) zQd2 (Ne.symm neQcQd.out) (.bool S4) (.slice Ar lr cr) (.slice Br mr dr)
      go_wp2_with fail
      clear zX0 zX1 zX2 zX3 zX4 zX5 zX6 zQa0 zQa1 zQa2 zQb0 zQb1 zQb2 zQc0 zQc1 zQc2 zQd0 zQd1 zQd2 yQc0 yQc1 yQc2 kX0 kX1 kX2 kX3 kX4 kX5 kQa0 kQa1 kQa2 kQb0 kQb1 kQb2 kQd0 kQd1 kQd2
      have Na' := Lib.hid (Na.out.rewrote Qc.out S4 (.slice Ar lr cr) (.slice Br mr dr))
      clear Na
      have Na := Na'
      clear Na'
      have Ea' := Lib.hid (Ea.out.rewrote Qc.out S4 (.slice Ar lr cr) (.slice Br mr dr))
      clear Ea
      have Ea := Ea'
      clear Ea'
      have Nb' := Lib.hid (Nb.out.rewrote Qc.out S4 (.slice Ar lr cr) (.slice Br mr dr))
      clear Nb
      have Nb := Nb'
      clear Nb'
      have Eb' := Lib.hid (Eb.out.rewrote Qc.out S4 (.slice Ar lr cr) (.slice Br mr dr))
      clear Eb
      have Eb := Eb'
      clear Eb'
      have Nc' := Lib.hid (Nc.out.rewrote Qc.out S4 (.slice Ar lr cr) (.slice Br mr dr))
      clear Nc
      have Nc := Nc'
      clear Nc'
      have Ec' := Lib.hid (Ec.out.rewrote Qc.out S4 (.slice Ar lr cr) (.slice Br mr dr))
      clear Ec
      have Ec := Ec'
      clear Ec'
      have Nd' := Lib.hid (Nd.out.rewrote Qc.out S4 (.slice Ar lr cr) (.slice Br mr dr))
      clear Nd
      have Nd := Nd'
      clear Nd'
      have Ed' := Lib.hid (Ed.out.rewrote Qc.out S4 (.slice Ar lr cr) (.slice Br mr dr))
      clear Ed
      have Ed := Ed'
      clear Ed'
      have Np' := Lib.hid (Np.out.rewrote Qc.out S4 (.slice Ar lr cr) (.slice Br mr dr))
      clear Np
      have Np := Np'
      clear Np'
      have Ep' := Lib.hid (Ep.out.rewrote Qc.out S4 (.slice Ar lr cr) (.slice Br mr dr))
      clear Ep
      have Ep := Ep'
      clear Ep'
      have Nq' := Lib.hid (Nq.out.rewrote Qc.out S4 (.slice Ar lr cr) (.slice Br mr dr))
      clear Nq
      have Nq := Nq'
      clear Nq'
      have Eq' := Lib.hid (Eq.out.rewrote Qc.out S4 (.slice Ar lr cr) (.slice Br mr dr))
      clear Eq
      have Eq := Eq'
      clear Eq'
      have Nr' := Lib.hid (Nr.out.rewrote Qc.out S4 (.slice Ar lr cr) (.slice Br mr dr))
      clear Nr
      have Nr := Nr'
      clear Nr'
      have Er' := Lib.hid (Er.out.rewrote Qc.out S4 (.slice Ar lr cr) (.slice Br mr dr))
      clear Er
      have Er := Er'
      clear Er'
      have Qa' := Lib.hid (Qa.out.wroteOther (neg' := S4) (vn' := (.slice Ar lr cr)) (vd' := (.slice Br mr dr)) neQaQc.out)
      clear Qa
      have Qa := Qa'
      clear Qa'
      have Qb' := Lib.hid (Qb.out.wroteOther (neg' := S4) (vn' := (.slice Ar lr cr)) (vd' := (.slice Br mr dr)) neQbQc.out)
      clear Qb
      have Qb := Qb'
      clear Qb'
      have Qd' := Lib.hid (Qd.out.wroteOther (neg' := S4) (vn' := (.slice Ar lr cr)) (vd' := (.slice Br mr dr)) (Ne.symm neQcQd.out))
      clear Qd
      have Qd := Qd'
      clear Qd'
      have X' := Lib.hid (X.out.wroteOther (neg' := S4) (vn' := (.slice Ar lr cr)) (vd' := (.slice Br mr dr)) neXQc.out)
      clear X
      have X := X'
      clear X'
      have HB' := Lib.hid (wroteQ_below HB.out geQc.out S4 (.slice Ar lr cr) (.slice Br mr dr))
      clear HB
      have HB := HB'
      clear HB'
      have Qc' := Lib.hid (Qc.out.write S4 (.slice Ar lr cr) (.slice Br mr dr))
      clear Qc
      have Qc := Qc'
      clear Qc'
      change Calls _ _ _ (wroteQ w11 gQc S4 (.slice Ar lr cr) (.slice Br mr dr)) _
      generalize wroteQ w11 gQc S4 (.slice Ar lr cr) (.slice Br mr dr) = v11Qc at *
      refine (R4.out _ HB.out).mono ?_
      rintro e w12 ⟨As, ls, cs, Bs, ms, ds, he, hNs, hEs, hb⟩
      subst he
      have Na' := Lib.hid (Na.out.up hb)
      clear Na
      have Na := Na'
      clear Na'
      have Ea' := Lib.hid (Ea.out.up hb)
      clear Ea
      have Ea := Ea'
      clear Ea'
      have Nb' := Lib.hid (Nb.out.up hb)
      clear Nb
      have Nb := Nb'
      clear Nb'
      have Eb' := Lib.hid (Eb.out.up hb)
      clear Eb
      have Eb := Eb'
      clear Eb'
      have Nc' := Lib.hid (Nc.out.up hb)
      clear Nc
      have Nc := Nc'
      clear Nc'
      have Ec' := Lib.hid (Ec.out.up hb)
      clear Ec
      have Ec := Ec'
      clear Ec'
      have Nd' := Lib.hid (Nd.out.up hb)
      clear Nd
      have Nd := Nd'
      clear Nd'
      have Ed' := Lib.hid (Ed.out.up hb)
      clear Ed
      have Ed := Ed'
      clear Ed'
      have Np' := Lib.hid (Np.out.up hb)
      clear Np
      have Np := Np'
      clear Np'
      have Ep' := Lib.hid (Ep.out.up hb)
      clear Ep
      have Ep := Ep'
      clear Ep'
      have Nq' := Lib.hid (Nq.out.up hb)
      clear Nq
      have Nq := Nq'
      clear Nq'
      have Eq' := Lib.hid (Eq.out.up hb)
      clear Eq
      have Eq := Eq'
      clear Eq'
      have Nr' := Lib.hid (Nr.out.up hb)
      clear Nr
      have Nr := Nr'
      clear Nr'
      have Er' := Lib.hid (Er.out.up hb)
      clear Er
      have Er := Er'
      clear Er'
      have Qa' := Lib.hid (Qa.out.below hb Qa.out.lt)
      clear Qa
      have Qa := Qa'
      clear Qa'
      have Qb' := Lib.hid (Qb.out.below hb Qb.out.lt)
      clear Qb
      have Qb := Qb'
      clear Qb'
      have Qc' := Lib.hid (Qc.out.below hb Qc.out.lt)
      clear Qc
      have Qc := Qc'
      clear Qc'
      have Qd' := Lib.hid (Qd.out.below hb Qd.out.lt)
      clear Qd
      have Qd := Qd'
      clear Qd'
      have X' := Lib.hid (X.out.below hb)
      clear X
      have X := X'
      clear X'
      have HB' := Lib.hid (HB.out.trans (hb.mono HB.out.size))
      clear HB
      have HB := HB'
      clear HB'
      clear hb
      have Ns := Lib.hid hNs
      clear hNs
      have Es := Lib.hid hEs
      clear hEs
      have zX0 := X.out.c0
      have zX1 := X.out.c1
      have zX2 := X.out.c2
      have zX3 := X.out.c3
      have zX4 := X.out.c4
      have zX5 := X.out.c5
      have zX6 := X.out.c6
      have zQa0 := Qa.out.c0
      have zQa1 := Qa.out.c1
      have zQa2 := Qa.out.c2
      have zQb0 := Qb.out.c0
      have zQb1 := Qb.out.c1
      have zQb2 := Qb.out.c2
      have zQc0 := Qc.out.c0
      have zQc1 := Qc.out.c1
      have zQc2 := Qc.out.c2
      have zQd0 := Qd.out.c0
      have zQd1 := Qd.out.c1
      have zQd2 := Qd.out.c2
      have yQd0 := Qd.out.fr 0
      have yQd1 := Qd.out.fr 1
      have yQd2 := Qd.out.fr 2
      have kX0 := cell_other3 (k := gQd) zX0 neXQd.out (.bool S4) (.slice As ls cs) (.slice Bs ms ds)
      have kX1 := cell_other3 (k := gQd) zX1 neXQd.out (.bool S4) (.slice As ls cs) (.slice Bs ms ds)
      have kX2 := cell_other3 (k := gQd) zX2 neXQd.out (.bool S4) (.slice As ls cs) (.slice Bs ms ds)
      have kX3 := cell_other3 (k := gQd) zX3 neXQd.out (.bool S4) (.slice As ls cs) (.slice Bs ms ds)
      have kX4 := cell_other3 (k := gQd) zX4 neXQd.out (.bool S4) (.slice As ls cs) (.slice Bs ms ds)
      have kX5 := cell_other3 (k := gQd) zX5 neXQd.out (.bool S4) (.slice As ls cs) (.slice Bs ms ds)
      have kQa0 := cell_other3 (k := gQd) zQa0 neQaQd.out (.bool S4) (.slice As ls cs) (.slice Bs ms ds)
      have kQa1 := cell_other3 (k := gQd) zQa1 neQaQd.out (.bool S4) (.slice As ls cs) (.slice Bs ms ds)
      have kQa2 := cell_other3 (k := gQd) zQa2 neQaQd.out (.bool S4) (.slice As ls cs) (.slice Bs ms ds)
      have kQb0 := cell_other3 (k := gQd) zQb0 neQbQd.out (.bool S4) (.slice As ls cs) (.slice Bs ms ds)
      have kQb1 := cell_other3 (k := gQd) zQb1 neQbQd.out (.bool S4) (.slice As ls cs) (.slice Bs ms ds)
      have kQb2 := cell_other3 (k := gQd) zQb2 neQbQd.out (.bool S4) (.slice As ls cs) (.slice Bs ms ds)
      have kQc0 := cell_other3 (k := gQd) zQc0 neQcQd.out (.bool S4) (.slice As ls cs) (.slice Bs ms ds)
      have kQc1 := cell_other3 (k := gQd) zQc1 neQcQd.out (.bool S4) (.slice As ls cs) (.slice Bs ms ds)
      have kQc2 := cell_other3 (k := gQd) zQc2 neQcQd.out (.bool S4) (.slice As ls cs) (.slice Bs ms ds)
      go_wp2_with fail
      clear zX0 zX1 zX2 zX3 zX4 zX5 zX6 zQa0 zQa1 zQa2 zQb0 zQb1 zQb2 zQc0 zQc1 zQc2 zQd0 zQd1 zQd2 yQd0 yQd1 yQd2 kX0 kX1 kX2 kX3 kX4 kX5 kQa0 kQa1 kQa2 kQb0 kQb1 kQb2 kQc0 kQc1 kQc2
      have Na' := Lib.hid (Na.out.rewrote Qd.out S4 (.slice As ls cs) (.slice Bs ms ds))
      clear Na
      have Na := Na'
      clear Na'
      have Ea' := Lib.hid (Ea.out.rewrote Qd.out S4 (.slice As ls cs) (.slice Bs ms ds))
      clear Ea
      have Ea := Ea'
      clear Ea'
      have Nb' := Lib.hid (Nb.out.rewrote Qd.out S4 (.slice As ls cs) (.slice Bs ms ds))
      clear Nb
      have Nb := Nb'
      clear Nb'
      have Eb' := Lib.hid (Eb.out.rewrote Qd.out S4 (.slice As ls cs) (.slice Bs ms ds))
      clear Eb
      have Eb := Eb'
      clear Eb'
      have Nc' := Lib.hid (Nc.out.rewrote Qd.out S4 (.slice As ls cs) (.slice Bs ms ds))
      clear Nc
      have Nc := Nc'
      clear Nc'
      have Ec' := Lib.hid (Ec.out.rewrote Qd.out S4 (.slice As ls cs) (.slice Bs ms ds))
      clear Ec
      have Ec := Ec'
      clear Ec'
      have Nd' := Lib.hid (Nd.out.rewrote Qd.out S4 (.slice As ls cs) (.slice Bs ms ds))
      clear Nd
      have Nd := Nd'
      clear Nd'
      have Ed' := Lib.hid (Ed.out.rewrote Qd.out S4 (.slice As ls cs) (.slice Bs ms ds))
      clear Ed
      have Ed := Ed'
      clear Ed'
      have Np' := Lib.hid (Np.out.rewrote Qd.out S4 (.slice As ls cs) (.slice Bs ms ds))
      clear Np
      have Np := Np'
      clear Np'
      have Ep' := Lib.hid (Ep.out.rewrote Qd.out S4 (.slice As ls cs) (.slice Bs ms ds))
      clear Ep
      have Ep := Ep'
      clear Ep'
      have Nq' := Lib.hid (Nq.out.rewrote Qd.out S4 (.slice As ls cs) (.slice Bs ms ds))
      clear Nq
      have Nq := Nq'
      clear Nq'
      have Eq' := Lib.hid (Eq.out.rewrote Qd.out S4 (.slice As ls cs) (.slice Bs ms ds))
      clear Eq
      have Eq := Eq'
      clear Eq'
      have Nr' := Lib.hid (Nr.out.rewrote Qd.out S4 (.slice As ls cs) (.slice Bs ms ds))
      clear Nr
      have Nr := Nr'
      clear Nr'
      have Er' := Lib.hid (Er.out.rewrote Qd.out S4 (.slice As ls cs) (.slice Bs ms ds))
      clear Er
      have Er := Er'
      clear Er'
      have Ns' := Lib.hid (Ns.out.rewrote Qd.out S4 (.slice As ls cs) (.slice Bs ms ds))
      clear Ns
      have Ns := Ns'
      clear Ns'
      have Es' := Lib.hid (Es.out.rewrote Qd.out S4 (.slice As ls cs) (.slice Bs ms ds))
      clear Es
      have Es := Es'
      clear Es'
      have Qa' := Lib.hid (Qa.out.wroteOther (neg' := S4) (vn' := (.slice As ls cs)) (vd' := (.slice Bs ms ds)) neQaQd.out)
      clear Qa
      have Qa := Qa'
      clear Qa'
      have Qb' := Lib.hid (Qb.out.wroteOther (neg' := S4) (vn' := (.slice As ls cs)) (vd' := (.slice Bs ms ds)) neQbQd.out)
      clear Qb
      have Qb := Qb'
      clear Qb'
      have Qc' := Lib.hid (Qc.out.wroteOther (neg' := S4) (vn' := (.slice As ls cs)) (vd' := (.slice Bs ms ds)) neQcQd.out)
      clear Qc
      have Qc := Qc'
      clear Qc'
      have X' := Lib.hid (X.out.wroteOther (neg' := S4) (vn' := (.slice As ls cs)) (vd' := (.slice Bs ms ds)) neXQd.out)
      clear X
      have X := X'
      clear X'
      have HB' := Lib.hid (wroteQ_below HB.out geQd.out S4 (.slice As ls cs) (.slice Bs ms ds))
      clear HB
      have HB := HB'
      clear HB'
      have Qd' := Lib.hid (Qd.out.write S4 (.slice As ls cs) (.slice Bs ms ds))
      clear Qd
      have Qd := Qd'
      clear Qd'
      change Calls _ _ _ (wroteQ w12 gQd S4 (.slice As ls cs) (.slice Bs ms ds)) _
      generalize wroteQ w12 gQd S4 (.slice As ls cs) (.slice Bs ms ds) = v12Qd at *
      refine (aw_sameQ _ _ _ _ _ _ _ _ Np.out Ep.out Nq.out Eq.out).mono ?_
      rintro e w13 ⟨he, hb⟩
      subst he
      have Na' := Lib.hid (Na.out.up hb)
      clear Na
      have Na := Na'
      clear Na'
      have Ea' := Lib.hid (Ea.out.up hb)
      clear Ea
      have Ea := Ea'
      clear Ea'
      have Nb' := Lib.hid (Nb.out.up hb)
      clear Nb
      have Nb := Nb'
      clear Nb'
      have Eb' := Lib.hid (Eb.out.up hb)
      clear Eb
      have Eb := Eb'
      clear Eb'
      have Nc' := Lib.hid (Nc.out.up hb)
      clear Nc
      have Nc := Nc'
      clear Nc'
      have Ec' := Lib.hid (Ec.out.up hb)
      clear Ec
      have Ec := Ec'
      clear Ec'
      have Nd' := Lib.hid (Nd.out.up hb)
      clear Nd
      have Nd := Nd'
      clear Nd'
      have Ed' := Lib.hid (Ed.out.up hb)
      clear Ed
      have Ed := Ed'
      clear Ed'
      have Np' := Lib.hid (Np.out.up hb)
      clear Np
      have Np := Np'
      clear Np'
      have Ep' := Lib.hid (Ep.out.up hb)
      clear Ep
      have Ep := Ep'
      clear Ep'
      have Nq' := Lib.hid (Nq.out.up hb)
      clear Nq
      have Nq := Nq'
      clear Nq'
      have Eq' := Lib.hid (Eq.out.up hb)
      clear Eq
      have Eq := Eq'
      clear Eq'
      have Nr' := Lib.hid (Nr.out.up hb)
      clear Nr
      have Nr := Nr'
      clear Nr'
      have Er' := Lib.hid (Er.out.up hb)
      clear Er
      have Er := Er'
      clear Er'
      have Ns' := Lib.hid (Ns.out.up hb)
      clear Ns
      have Ns := Ns'
      clear Ns'
      have Es' := Lib.hid (Es.out.up hb)
      clear Es
      have Es := Es'
      clear Es'
      have Qa' := Lib.hid (Qa.out.below hb Qa.out.lt)
      clear Qa
      have Qa := Qa'
      clear Qa'
      have Qb' := Lib.hid (Qb.out.below hb Qb.out.lt)
      clear Qb
      have Qb := Qb'
      clear Qb'
      have Qc' := Lib.hid (Qc.out.below hb Qc.out.lt)
      clear Qc
      have Qc := Qc'
      clear Qc'
      have Qd' := Lib.hid (Qd.out.below hb Qd.out.lt)
      clear Qd
      have Qd := Qd'
      clear Qd'
      have X' := Lib.hid (X.out.below hb)
      clear X
      have X := X'
      clear X'
      have HB' := Lib.hid (HB.out.trans (hb.mono HB.out.size))
      clear HB
      have HB := HB'
      clear HB'
      clear hb
      have zX0 := X.out.c0
      have zX1 := X.out.c1
      have zX2 := X.out.c2
      have zX3 := X.out.c3
      have zX4 := X.out.c4
      have zX5 := X.out.c5
      have zX6 := X.out.c6
      have zQa0 := Qa.out.c0
      have zQa1 := Qa.out.c1
      have zQa2 := Qa.out.c2
      have zQb0 := Qb.out.c0
      have zQb1 := Qb.out.c1
      have zQb2 := Qb.out.c2
      have zQc0 := Qc.out.c0
      have zQc1 := Qc.out.c1
      have zQc2 := Qc.out.c2
      have zQd0 := Qd.out.c0
      have zQd1 := Qd.out.c1
      have zQd2 := Qd.out.c2
      go_wp2_with fail
      refine (aw_sameQ _ _ _ _ _ _ _ _ Nr.out Er.out Ns.out Es.out).mono ?_
      rintro e w14 ⟨he, hb⟩
      subst he
      clear zX0 zX1 zX2 zX3 zX4 zX5 zX6 zQa0 zQa1 zQa2 zQb0 zQb1 zQb2 zQc0 zQc1 zQc2 zQd0 zQd1 zQd2
      have Na' := Lib.hid (Na.out.up hb)
      clear Na
      have Na := Na'
      clear Na'
      have Ea' := Lib.hid (Ea.out.up hb)
      clear Ea
      have Ea := Ea'
      clear Ea'
      have Nb' := Lib.hid (Nb.out.up hb)
      clear Nb
      have Nb := Nb'
      clear Nb'
      have Eb' := Lib.hid (Eb.out.up hb)
      clear Eb
      have Eb := Eb'
      clear Eb'
      have Nc' := Lib.hid (Nc.out.up hb)
      clear Nc
      have Nc := Nc'
      clear Nc'
      have Ec' := Lib.hid (Ec.out.up hb)
      clear Ec
      have Ec := Ec'
      clear Ec'
      have Nd' := Lib.hid (Nd.out.up hb)
      clear Nd
      have Nd := Nd'
      clear Nd'
      have Ed' := Lib.hid (Ed.out.up hb)
      clear Ed
      have Ed := Ed'
      clear Ed'
      have Np' := Lib.hid (Np.out.up hb)
      clear Np
      have Np := Np'
      clear Np'
      have Ep' := Lib.hid (Ep.out.up hb)
      clear Ep
      have Ep := Ep'
      clear Ep'
      have Nq' := Lib.hid (Nq.out.up hb)
      clear Nq
      have Nq := Nq'
      clear Nq'
      have Eq' := Lib.hid (Eq.out.up hb)
      clear Eq
      have Eq := Eq'
      clear Eq'
      have Nr' := Lib.hid (Nr.out.up hb)
      clear Nr
      have Nr := Nr'
      clear Nr'
      have Er' := Lib.hid (Er.out.up hb)
      clear Er
      have Er := Er'
      clear Er'
      have Ns' := Lib.hid (Ns.out.up hb)
      clear Ns
      have Ns := Ns'
      clear Ns'
      have Es' := Lib.hid (Es.out.up hb)
      clear Es
      have Es := Es'
      clear Es'
      have Qa' := Lib.hid (Qa.out.below hb Qa.out.lt)
      clear Qa
      have Qa := Qa'
      clear Qa'
      have Qb' := Lib.hid (Qb.out.below hb Qb.out.lt)
      clear Qb
      have Qb := Qb'
      clear Qb'
      have Qc' := Lib.hid (Qc.out.below hb Qc.out.lt)
      clear Qc
      have Qc := Qc'
      clear Qc'
      have Qd' := Lib.hid (Qd.out.below hb Qd.out.lt)
      clear Qd
      have Qd := Qd'
      clear Qd'
      have X' := Lib.hid (X.out.below hb)
      clear X
      have X := X'
      clear X'
      have HB' := Lib.hid (HB.out.trans (hb.mono HB.out.size))
      clear HB
      have HB := HB'
      clear HB'
      clear hb
      have zX0 := X.out.c0
      have zX1 := X.out.c1
      have zX2 := X.out.c2
      have zX3 := X.out.c3
      have zX4 := X.out.c4
      have zX5 := X.out.c5
      have zX6 := X.out.c6
      have zQa0 := Qa.out.c0
      have zQa1 := Qa.out.c1
      have zQa2 := Qa.out.c2
      have zQb0 := Qb.out.c0
      have zQb1 := Qb.out.c1
      have zQb2 := Qb.out.c2
      have zQc0 := Qc.out.c0
      have zQc1 := Qc.out.c1
      have zQc2 := Qc.out.c2
      have zQd0 := Qd.out.c0
      have zQd1 := Qd.out.c1
      have zQd2 := Qd.out.c2
      go_wp2_with fail
      refine (H5.out _ HB.out).mono ?_
      rintro e w15 ⟨he, hb⟩
      subst he
      clear zX0 zX1 zX2 zX3 zX4 zX5 zX6 zQa0 zQa1 zQa2 zQb0 zQb1 zQb2 zQc0 zQc1 zQc2 zQd0 zQd1 zQd2
      have Na' := Lib.hid (Na.out.up hb)
      clear Na
      have Na := Na'
      clear Na'
      have Ea' := Lib.hid (Ea.out.up hb)
      clear Ea
      have Ea := Ea'
      clear Ea'
      have Nb' := Lib.hid (Nb.out.up hb)
      clear Nb
      have Nb := Nb'
      clear Nb'
      have Eb' := Lib.hid (Eb.out.up hb)
      clear Eb
      have Eb := Eb'
      clear Eb'
      have Nc' := Lib.hid (Nc.out.up hb)
      clear Nc
      have Nc := Nc'
      clear Nc'
      have Ec' := Lib.hid (Ec.out.up hb)
      clear Ec
      have Ec := Ec'
      clear Ec'
      have Nd' := Lib.hid (Nd.out.up hb)
      clear Nd
      have Nd := Nd'
      clear Nd'
      have Ed' := Lib.hid (Ed.out.up hb)
      clear Ed
      have Ed := Ed'
      clear Ed'
      have Np' := Lib.hid (Np.out.up hb)
      clear Np
      have Np := Np'
      clear Np'
      have Ep' := Lib.hid (Ep.out.up hb)
      clear Ep
      have Ep := Ep'
      clear Ep'
      have Nq' := Lib.hid (Nq.out.up hb)
      clear Nq
      have Nq := Nq'
      clear Nq'
      have Eq' := Lib.hid (Eq.out.up hb)
      clear Eq
      have Eq := Eq'
      clear Eq'
      have Nr' := Lib.hid (Nr.out.up hb)
      clear Nr
      have Nr := Nr'
      clear Nr'
      have Er' := Lib.hid (Er.out.up hb)
      clear Er
      have Er := Er'
      clear Er'
      have Ns' := Lib.hid (Ns.out.up hb)
      clear Ns
      have Ns := Ns'
      clear Ns'
      have Es' := Lib.hid (Es.out.up hb)
      clear Es
      have Es := Es'
      clear Es'
      have Qa' := Lib.hid (Qa.out.below hb Qa.out.lt)
      clear Qa
      have Qa := Qa'
      clear Qa'
      have Qb' := Lib.hid (Qb.out.below hb Qb.out.lt)
      clear Qb
      have Qb := Qb'
      clear Qb'
      have Qc' := Lib.hid (Qc.out.below hb Qc.out.lt)
      clear Qc
      have Qc := Qc'
      clear Qc'
      have Qd' := Lib.hid (Qd.out.below hb Qd.out.lt)
      clear Qd
      have Qd := Qd'
      clear Qd'
      have X' := Lib.hid (X.out.below hb)
      clear X
      have X := X'
      clear X'
      have HB' := Lib.hid (HB.out.trans (hb.mono HB.out.size))
      clear HB
      have HB := HB'
      clear HB'
      clear hb
      have zX0 := X.out.c0
      have zX1 := X.out.c1
      have zX2 := X.out.c2
      have zX3 := X.out.c3
      have zX4 := X.out.c4
      have zX5 := X.out.c5
      have zX6 := X.out.c6
      have zQa0 := Qa.out.c0
      have zQa1 := Qa.out.c1
      have zQa2 := Qa.out.c2
      have zQb0 := Qb.out.c0
      have zQb1 := Qb.out.c1
      have zQb2 := Qb.out.c2
      have zQc0 := Qc.out.c0
      have zQc1 := Qc.out.c1
      have zQc2 := Qc.out.c2
      have zQd0 := Qd.out.c0
      have zQd1 := Qd.out.c1
      have zQd2 := Qd.out.c2
      go_wp2_with fail
      refine (R5.out _ HB.out).mono ?_
      rintro e w16 ⟨he, hb⟩
      subst he
      clear zX0 zX1 zX2 zX3 zX4 zX5 zX6 zQa0 zQa1 zQa2 zQb0 zQb1 zQb2 zQc0 zQc1 zQc2 zQd0 zQd1 zQd2
      have Na' := Lib.hid (Na.out.up hb)
      clear Na
      have Na := Na'
      clear Na'
      have Ea' := Lib.hid (Ea.out.up hb)
      clear Ea
      have Ea := Ea'
      clear Ea'
      have Nb' := Lib.hid (Nb.out.up hb)
      clear Nb
      have Nb := Nb'
      clear Nb'
      have Eb' := Lib.hid (Eb.out.up hb)
      clear Eb
      have Eb := Eb'
      clear Eb'
      have Nc' := Lib.hid (Nc.out.up hb)
      clear Nc
      have Nc := Nc'
      clear Nc'
      have Ec' := Lib.hid (Ec.out.up hb)
      clear Ec
      have Ec := Ec'
      clear Ec'
      have Nd' := Lib.hid (Nd.out.up hb)
      clear Nd
      have Nd := Nd'
      clear Nd'
      have Ed' := Lib.hid (Ed.out.up hb)
      clear Ed
      have Ed := Ed'
      clear Ed'
      have Np' := Lib.hid (Np.out.up hb)
      clear Np
      have Np := Np'
      clear Np'
      have Ep' := Lib.hid (Ep.out.up hb)
      clear Ep
      have Ep := Ep'
      clear Ep'
      have Nq' := Lib.hid (Nq.out.up hb)
      clear Nq
      have Nq := Nq'
      clear Nq'
      have Eq' := Lib.hid (Eq.out.up hb)
      clear Eq
      have Eq := Eq'
      clear Eq'
      have Nr' := Lib.hid (Nr.out.up hb)
      clear Nr
      have Nr := Nr'
      clear Nr'
      have Er' := Lib.hid (Er.out.up hb)
      clear Er
      have Er := Er'
      clear Er'
      have Ns' := Lib.hid (Ns.out.up hb)
      clear Ns
      have Ns := Ns'
      clear Ns'
      have Es' := Lib.hid (Es.out.up hb)
      clear Es
      have Es := Es'
      clear Es'
      have Qa' := Lib.hid (Qa.out.below hb Qa.out.lt)
      clear Qa
      have Qa := Qa'
      clear Qa'
      have Qb' := Lib.hid (Qb.out.below hb Qb.out.lt)
      clear Qb
      have Qb := Qb'
      clear Qb'
      have Qc' := Lib.hid (Qc.out.below hb Qc.out.lt)
      clear Qc
      have Qc := Qc'
      clear Qc'
      have Qd' := Lib.hid (Qd.out.below hb Qd.out.lt)
      clear Qd
      have Qd := Qd'
      clear Qd'
      have X' := Lib.hid (X.out.below hb)
      clear X
      have X := X'
      clear X'
      have HB' := Lib.hid (HB.out.trans (hb.mono HB.out.size))
      clear HB
      have HB := HB'
      clear HB'
      clear hb
      have zX0 := X.out.c0
      have zX1 := X.out.c1
      have zX2 := X.out.c2
      have zX3 := X.out.c3
      have zX4 := X.out.c4
      have zX5 := X.out.c5
      have zX6 := X.out.c6
      have zQa0 := Qa.out.c0
      have zQa1 := Qa.out.c1
      have zQa2 := Qa.out.c2
      have zQb0 := Qb.out.c0
      have zQb1 := Qb.out.c1
      have zQb2 := Qb.out.c2
      have zQc0 := Qc.out.c0
      have zQc1 := Qc.out.c1
      have zQc2 := Qc.out.c2
      have zQd0 := Qd.out.c0
      have zQd1 := Qd.out.c1
      have zQd2 := Qd.out.c2
      go_wp2_with fail
      refine (H6.out _ HB.out).mono ?_
      rintro e w17 ⟨v6, he, hP6, hb⟩
      subst he
      clear zX0 zX1 zX2 zX3 zX4 zX5 zX6 zQa0 zQa1 zQa2 zQb0 zQb1 zQb2 zQc0 zQc1 zQc2 zQd0 zQd1 zQd2
      have Na' := Lib.hid (Na.out.up hb)
      clear Na
      have Na := Na'
      clear Na'
      have Ea' := Lib.hid (Ea.out.up hb)
      clear Ea
      have Ea := Ea'
      clear Ea'
      have Nb' := Lib.hid (Nb.out.up hb)
      clear Nb
      have Nb := Nb'
      clear Nb'
      have Eb' := Lib.hid (Eb.out.up hb)
      clear Eb
      have Eb := Eb'
      clear Eb'
      have Nc' := Lib.hid (Nc.out.up hb)
      clear Nc
      have Nc := Nc'
      clear Nc'
      have Ec' := Lib.hid (Ec.out.up hb)
      clear Ec
      have Ec := Ec'
      clear Ec'
      have Nd' := Lib.hid (Nd.out.up hb)
      clear Nd
      have Nd := Nd'
      clear Nd'
      have Ed' := Lib.hid (Ed.out.up hb)
      clear Ed
      have Ed := Ed'
      clear Ed'
      have Np' := Lib.hid (Np.out.up hb)
      clear Np
      have Np := Np'
      clear Np'
      have Ep' := Lib.hid (Ep.out.up hb)
      clear Ep
      have Ep := Ep'
      clear Ep'
      have Nq' := Lib.hid (Nq.out.up hb)
      clear Nq
      have Nq := Nq'
      clear Nq'
      have Eq' := Lib.hid (Eq.out.up hb)
      clear Eq
      have Eq := Eq'
      clear Eq'
      have Nr' := Lib.hid (Nr.out.up hb)
      clear Nr
      have Nr := Nr'
      clear Nr'
      have Er' := Lib.hid (Er.out.up hb)
      clear Er
      have Er := Er'
      clear Er'
      have Ns' := Lib.hid (Ns.out.up hb)
      clear Ns
      have Ns := Ns'
      clear Ns'
      have Es' := Lib.hid (Es.out.up hb)
      clear Es
      have Es := Es'
      clear Es'
      have Qa' := Lib.hid (Qa.out.below hb Qa.out.lt)
      clear Qa
      have Qa := Qa'
      clear Qa'
      have Qb' := Lib.hid (Qb.out.below hb Qb.out.lt)
      clear Qb
      have Qb := Qb'
      clear Qb'
      have Qc' := Lib.hid (Qc.out.below hb Qc.out.lt)
      clear Qc
      have Qc := Qc'
      clear Qc'
      have Qd' := Lib.hid (Qd.out.below hb Qd.out.lt)
      clear Qd
      have Qd := Qd'
      clear Qd'
      have X' := Lib.hid (X.out.below hb)
      clear X
      have X := X'
      clear X'
      have HB' := Lib.hid (HB.out.trans (hb.mono HB.out.size))
      clear HB
      have HB := HB'
      clear HB'
      clear hb
      have P6 := Lib.hid hP6
      clear hP6
      have zX0 := X.out.c0
      have zX1 := X.out.c1
      have zX2 := X.out.c2
      have zX3 := X.out.c3
      have zX4 := X.out.c4
      have zX5 := X.out.c5
      have zX6 := X.out.c6
      have zQa0 := Qa.out.c0
      have zQa1 := Qa.out.c1
      have zQa2 := Qa.out.c2
      have zQb0 := Qb.out.c0
      have zQb1 := Qb.out.c1
      have zQb2 := Qb.out.c2
      have zQc0 := Qc.out.c0
      have zQc1 := Qc.out.c1
      have zQc2 := Qc.out.c2
      have zQd0 := Qd.out.c0
      have zQd1 := Qd.out.c1
      have zQd2 := Qd.out.c2
      go_wp2_with fail
      refine (R6.out _ HB.out).mono ?_
      rintro e w18 ⟨u6, he, hQ6, hb⟩
      subst he
      clear zX0 zX1 zX2 zX3 zX4 zX5 zX6 zQa0 zQa1 zQa2 zQb0 zQb1 zQb2 zQc0 zQc1 zQc2 zQd0 zQd1 zQd2
      have Na' := Lib.hid (Na.out.up hb)
      clear Na
      have Na := Na'
      clear Na'
      have Ea' := Lib.hid (Ea.out.up hb)
      clear Ea
      have Ea := Ea'
      clear Ea'
      have Nb' := Lib.hid (Nb.out.up hb)
      clear Nb
      have Nb := Nb'
      clear Nb'
      have Eb' := Lib.hid (Eb.out.up hb)
      clear Eb
      have Eb := Eb'
      clear Eb'
      have Nc' := Lib.hid (Nc.out.up hb)
      clear Nc
      have Nc := Nc'
      clear Nc'
      have Ec' := Lib.hid (Ec.out.up hb)
      clear Ec
      have Ec := Ec'
      clear Ec'
      have Nd' := Lib.hid (Nd.out.up hb)
      clear Nd
      have Nd := Nd'
      clear Nd'
      have Ed' := Lib.hid (Ed.out.up hb)
      clear Ed
      have Ed := Ed'
      clear Ed'
      have Np' := Lib.hid (Np.out.up hb)
      clear Np
      have Np := Np'
      clear Np'
      have Ep' := Lib.hid (Ep.out.up hb)
      clear Ep
      have Ep := Ep'
      clear Ep'
      have Nq' := Lib.hid (Nq.out.up hb)
      clear Nq
      have Nq := Nq'
      clear Nq'
      have Eq' := Lib.hid (Eq.out.up hb)
      clear Eq
      have Eq := Eq'
      clear Eq'
      have Nr' := Lib.hid (Nr.out.up hb)
      clear Nr
      have Nr := Nr'
      clear Nr'
      have Er' := Lib.hid (Er.out.up hb)
      clear Er
      have Er := Er'
      clear Er'
      have Ns' := Lib.hid (Ns.out.up hb)
      clear Ns
      have Ns := Ns'
      clear Ns'
      have Es' := Lib.hid (Es.out.up hb)
      clear Es
      have Es := Es'
      clear Es'
      have P6' := Lib.hid (P6.out.up hb)
      clear P6
      have P6 := P6'
      clear P6'
      have Qa' := Lib.hid (Qa.out.below hb Qa.out.lt)
      clear Qa
      have Qa := Qa'
      clear Qa'
      have Qb' := Lib.hid (Qb.out.below hb Qb.out.lt)
      clear Qb
      have Qb := Qb'
      clear Qb'
      have Qc' := Lib.hid (Qc.out.below hb Qc.out.lt)
      clear Qc
      have Qc := Qc'
      clear Qc'
      have Qd' := Lib.hid (Qd.out.below hb Qd.out.lt)
      clear Qd
      have Qd := Qd'
      clear Qd'
      have X' := Lib.hid (X.out.below hb)
      clear X
      have X := X'
      clear X'
      have HB' := Lib.hid (HB.out.trans (hb.mono HB.out.size))
      clear HB
      have HB := HB'
      clear HB'
      clear hb
      have Q6 := Lib.hid hQ6
      clear hQ6
      have zX0 := X.out.c0
      have zX1 := X.out.c1
      have zX2 := X.out.c2
      have zX3 := X.out.c3
      have zX4 := X.out.c4
      have zX5 := X.out.c5
      have zX6 := X.out.c6
      have zQa0 := Qa.out.c0
      have zQa1 := Qa.out.c1
      have zQa2 := Qa.out.c2
      have zQb0 := Qb.out.c0
      have zQb1 := Qb.out.c1
      have zQb2 := Qb.out.c2
      have zQc0 := Qc.out.c0
      have zQc1 := Qc.out.c1
      have zQc2 := Qc.out.c2
      have zQd0 := Qd.out.c0
      have zQd1 := Qd.out.c1
      have zQd2 := Qd.out.c2
      go_wp2_with fail
      clear zX0 zX1 zX2 zX3 zX4 zX5 zX6 zQa0 zQa1 zQa2 zQb0 zQb1 zQb2 zQc0 zQc1 zQc2 zQd0 zQd1 zQd2
      clear Na
      clear Ea
      clear Nb
      clear Eb
      clear Nc
      clear Ec
      clear Nd
      clear Ed
      clear Np
      clear Ep
      clear Nq
      clear Eq
      clear Nr
      clear Er
      clear Ns
      clear Es
      clear Qa
      clear Qb
      clear Qc
      clear Qd
      have HBd := Lib.hid HB.out.drew
      clear HB
      have HB := HBd
      clear HBd
      have X' := Lib.hid (show QX w18.drew _ _ _ _ _ _ _ _ from X.out)
      clear X
      have X := X'
      clear X'
      have P6' := Lib.hid (P6.out.up (Below.refl _ _).drew)
      clear P6
      have P6 := P6'
      clear P6'
      have Q6' := Lib.hid (Q6.out.up (Below.refl _ _).drew)
      clear Q6
      have Q6 := Q6'
      clear Q6'
      have zz0 := X.out.c0
      have zy0 : w18.cell? ⟨w.heap.size, 0, none⟩ = _ := X.out.c0
      have zz1 := X.out.c1
      have zy1 : w18.cell? ⟨w.heap.size, 1, none⟩ = _ := X.out.c1
      have zz2 := X.out.c2
      have zy2 : w18.cell? ⟨w.heap.size, 2, none⟩ = _ := X.out.c2
      refine wp_region_noPanic ?_
      refine wp_region_held_drew (S := (fun w' => w'.cell? ⟨w.heap.size, 0, none⟩ = some (.bool s1) ∧ w'.cell? ⟨w.heap.size, 1, none⟩ = some (.slice A1 n1 a1) ∧ w'.cell? ⟨w.heap.size, 2, none⟩ = some (.slice B1 m1 b1))) (by kernel_rfl) (by refine ⟨?_, ?_, ?_⟩ <;> first | with_reducible assumption | go_keep) (fun hHeld => ?_)
      refine wpAnyH_take (i := 0) (oi := ⟨some 164, _, _, _, _, _⟩) (v := ?_) rfl (by kernel_rfl) (by kernel_rfl) (by kernel_rfl) (fun _ _ _ h => h) (Or.inl ⟨by rfl, ?_⟩) (by assumption) ?_
      rotate_left
      · (intro w hSw; (try dsimp only at hSw); go_simp; (try (with_reducible rfl)))
      (try simp only [Act.put, List.setIfInBounds_toArray, List.set_cons_zero, List.set_cons_succ])
      refine wpAnyH_take (i := 1) (oi := ⟨some 165, _, _, _, _, _⟩) (v := ?_) rfl (by kernel_rfl) (by kernel_rfl) (by kernel_rfl) (fun _ _ _ h => h) (Or.inl ⟨by rfl, ?_⟩) (by assumption) ?_
      rotate_left
      · (intro w hSw; (try dsimp only at hSw); go_simp; (try (with_reducible rfl)))
      (try simp only [Act.put, List.setIfInBounds_toArray, List.set_cons_zero, List.set_cons_succ])
      refine wpAnyH_take (i := 3) (oi := ⟨some 167, _, _, _, _, _⟩) (v := ?_) rfl (by kernel_rfl) (by kernel_rfl) (by kernel_rfl) (fun _ _ _ h => h) (Or.inl ⟨by rfl, ?_⟩) (by assumption) ?_
      rotate_left
      · (intro w hSw; (try dsimp only at hSw); go_simp; (try (with_reducible rfl)))
      (try simp only [Act.put, List.setIfInBounds_toArray, List.set_cons_zero, List.set_cons_succ])
      refine wpAnyH_take (i := 4) (oi := ⟨some 168, _, _, _, _, _⟩) (v := ?_) rfl (by kernel_rfl) (by kernel_rfl) (by kernel_rfl) (fun _ _ _ h => h) (Or.inl ⟨by rfl, ?_⟩) (by assumption) ?_
      rotate_left
      · (intro w hSw; (try dsimp only at hSw); go_simp; (try (with_reducible rfl)))
      (try simp only [Act.put, List.setIfInBounds_toArray, List.set_cons_zero, List.set_cons_succ])
      refine wpAnyH_ready (rs := [2]) (by kernel_rfl) (by simp) (AllReadyH.cons (o := ⟨some 166, _, _, _, _, _⟩) rfl (fun K hK => ?_) AllReadyH.nil)
      rw [if_pos (by rfl)]
      go_simp
      go_at_call 62
      refine Calls.mono (H7.out _ HB.out) ?_
      rintro e x1 ⟨he, hb⟩
      subst he
      have P6' := Lib.hid (P6.out.up hb)
      clear P6
      have P6 := P6'
      clear P6'
      have Q6' := Lib.hid (Q6.out.up hb)
      clear Q6
      have Q6 := Q6'
      clear Q6'
      have X' := Lib.hid (X.out.below hb)
      clear X
      have X := X'
      clear X'
      have HB' := Lib.hid (HB.out.trans (hb.mono HB.out.size))
      clear HB
      have HB := HB'
      clear HB' hb
      have qx10 := X.out.c0
      have qx11 := X.out.c1
      have qx12 := X.out.c2
      (try go_wp2_with fail)
      refine hK.out _ _ (by (try dsimp only); refine ⟨?_, ?_, ?_⟩ <;> first | with_reducible assumption | go_keep) (fun hHeld => ?_)
      clear hK K
      (try simp only [Act.put, List.setIfInBounds_toArray, List.set_cons_zero, List.set_cons_succ])
      refine wpAnyH_ready (rs := [5]) (by kernel_rfl) (by simp) (AllReadyH.cons (o := ⟨some 169, _, _, _, _, _⟩) rfl (fun K hK => ?_) AllReadyH.nil)
      rw [if_pos (by rfl)]
      go_simp
      go_at_call 63
      refine Calls.mono (R7.out _ HB.out) ?_
      rintro e x2 ⟨he, hb⟩
      subst he
      have P6' := Lib.hid (P6.out.up hb)
      clear P6
      have P6 := P6'
      clear P6'
      have Q6' := Lib.hid (Q6.out.up hb)
      clear Q6
      have Q6 := Q6'
      clear Q6'
      have X' := Lib.hid (X.out.below hb)
      clear X
      have X := X'
      clear X'
      have HB' := Lib.hid (HB.out.trans (hb.mono HB.out.size))
      clear HB
      have HB := HB'
      clear HB' hb
      have qx20 := X.out.c0
      have qx21 := X.out.c1
      have qx22 := X.out.c2
      (try go_wp2_with fail)
      refine hK.out _ _ (by (try dsimp only); refine ⟨?_, ?_, ?_⟩ <;> first | with_reducible assumption | go_keep) (fun hHeld => ?_)
      clear hK K
      (try simp only [Act.put, List.setIfInBounds_toArray, List.set_cons_zero, List.set_cons_succ])
      refine wpAnyH_take (i := 6) (oi := ⟨some 170, _, _, _, _, _⟩) (v := ?_) rfl (by kernel_rfl) (by kernel_rfl) (by kernel_rfl) (fun _ _ _ h => h) (Or.inl ⟨by rfl, ?_⟩) (by assumption) ?_
      rotate_left
      · (intro w hSw; (try dsimp only at hSw); go_simp; (try (with_reducible rfl)))
      (try simp only [Act.put, List.setIfInBounds_toArray, List.set_cons_zero, List.set_cons_succ])
      refine wpAnyH_take (i := 7) (oi := ⟨some 171, _, _, _, _, _⟩) (v := ?_) rfl (by kernel_rfl) (by kernel_rfl) (by kernel_rfl) (fun _ _ _ h => h) (Or.inl ⟨by rfl, ?_⟩) (by assumption) ?_
      rotate_left
      · (intro w hSw; (try dsimp only at hSw); go_simp; (try (with_reducible rfl)))
      (try simp only [Act.put, List.setIfInBounds_toArray, List.set_cons_zero, List.set_cons_succ])
      refine wpAnyH_take (i := 8) (oi := ⟨some 172, _, _, _, _, _⟩) (v := ?_) rfl (by kernel_rfl) (by kernel_rfl) (by kernel_rfl) (fun _ _ _ h => h) (Or.inl ⟨by rfl, ?_⟩) (by assumption) ?_
      rotate_left
      · (intro w hSw; (try dsimp only at hSw); go_simp; (try (with_reducible rfl)))
      (try simp only [Act.put, List.setIfInBounds_toArray, List.set_cons_zero, List.set_cons_succ])
      refine wpAnyH_take (i := 9) (oi := ⟨some 173, _, _, _, _, _⟩) (v := ?_) rfl (by kernel_rfl) (by kernel_rfl) (by kernel_rfl) (fun _ _ _ h => h) (Or.inl ⟨by rfl, ?_⟩) (by assumption) ?_
      rotate_left
      · (intro w hSw; (try dsimp only at hSw); go_simp; (try (with_reducible rfl)))
      (try simp only [Act.put, List.setIfInBounds_toArray, List.set_cons_zero, List.set_cons_succ])
      refine wpAnyH_take (i := 10) (oi := ⟨some 174, _, _, _, _, _⟩) (v := ?_) rfl (by kernel_rfl) (by kernel_rfl) (by kernel_rfl) (fun _ _ _ h => h) (Or.inl ⟨by rfl, ?_⟩) (by assumption) ?_
      rotate_left
      · (intro w hSw; (try dsimp only at hSw); go_simp; (try (with_reducible rfl)))
      (try simp only [Act.put, List.setIfInBounds_toArray, List.set_cons_zero, List.set_cons_succ])
      refine wpAnyH_take (i := 11) (oi := ⟨some 175, _, _, _, _, _⟩) (v := ?_) rfl (by kernel_rfl) (by kernel_rfl) (by kernel_rfl) (fun _ _ _ h => h) (Or.inl ⟨by rfl, ?_⟩) (by assumption) ?_
      rotate_left
      · (intro w hSw; (try dsimp only at hSw); go_simp; (try (with_reducible rfl)))
      (try simp only [Act.put, List.setIfInBounds_toArray, List.set_cons_zero, List.set_cons_succ])
      refine wpAnyH_take (i := 12) (oi := ⟨some 176, _, _, _, _, _⟩) (v := ?_) rfl (by kernel_rfl) (by kernel_rfl) (by kernel_rfl) (fun _ _ _ h => h) (Or.inl ⟨by rfl, ?_⟩) (by assumption) ?_
      rotate_left
      · (intro w hSw; (try dsimp only at hSw); go_simp; (try (with_reducible rfl)))
      (try simp only [Act.put, List.setIfInBounds_toArray, List.set_cons_zero, List.set_cons_succ])
      refine wpAnyH_take (i := 13) (oi := ⟨some 177, _, _, _, _, _⟩) (v := ?_) rfl (by kernel_rfl) (by kernel_rfl) (by kernel_rfl) (fun _ _ _ h => h) (Or.inl ⟨by rfl, ?_⟩) (by assumption) ?_
      rotate_left
      · (intro w hSw; (try dsimp only at hSw); go_simp; (try (with_reducible rfl)))
      (try simp only [Act.put, List.setIfInBounds_toArray, List.set_cons_zero, List.set_cons_succ])
      refine wpAnyH_take (i := 14) (oi := ⟨some 178, _, _, _, _, _⟩) (v := ?_) rfl (by kernel_rfl) (by kernel_rfl) (by kernel_rfl) (fun _ _ _ h => h) (Or.inl ⟨by rfl, ?_⟩) (by assumption) ?_
      rotate_left
      · (intro w hSw; (try dsimp only at hSw); go_simp; (try (with_reducible rfl)))
      (try simp only [Act.put, List.setIfInBounds_toArray, List.set_cons_zero, List.set_cons_succ])
      refine wpAnyH_take (i := 15) (oi := ⟨some 179, _, _, _, _, _⟩) (v := ?_) rfl (by kernel_rfl) (by kernel_rfl) (by kernel_rfl) (fun _ _ _ h => h) (Or.inl ⟨by rfl, ?_⟩) (by assumption) ?_
      rotate_left
      · (intro w hSw; (try dsimp only at hSw); go_simp; (try (with_reducible rfl)))
      (try simp only [Act.put, List.setIfInBounds_toArray, List.set_cons_zero, List.set_cons_succ])
      refine wpAnyH_take (i := 16) (oi := ⟨some 180, _, _, _, _, _⟩) (v := ?_) rfl (by kernel_rfl) (by kernel_rfl) (by kernel_rfl) (fun _ _ _ h => h) (Or.inl ⟨by rfl, ?_⟩) (by assumption) ?_
      rotate_left
      · (intro w hSw; (try dsimp only at hSw); go_simp; (try (with_reducible rfl)))
      (try simp only [Act.put, List.setIfInBounds_toArray, List.set_cons_zero, List.set_cons_succ])
      refine wpAnyH_take (i := 17) (oi := ⟨some 181, _, _, _, _, _⟩) (v := ?_) rfl (by kernel_rfl) (by kernel_rfl) (by kernel_rfl) (fun _ _ _ h => h) (Or.inl ⟨by rfl, ?_⟩) (by assumption) ?_
      rotate_left
      · (intro w hSw; (try dsimp only at hSw); go_simp; (try (with_reducible rfl)))
      (try simp only [Act.put, List.setIfInBounds_toArray, List.set_cons_zero, List.set_cons_succ])
      refine wpAnyH_take (i := 18) (oi := ⟨some 182, _, _, _, _, _⟩) (v := ?_) rfl (by kernel_rfl) (by kernel_rfl) (by kernel_rfl) (fun _ _ _ h => h) (Or.inl ⟨by rfl, ?_⟩) (by assumption) ?_
      rotate_left
      · (intro w hSw; (try dsimp only at hSw); go_simp; (try (with_reducible rfl)))
      (try simp only [Act.put, List.setIfInBounds_toArray, List.set_cons_zero, List.set_cons_succ])
      refine wpAnyH_take (i := 19) (oi := ⟨some 183, _, _, _, _, _⟩) (v := ?_) rfl (by kernel_rfl) (by kernel_rfl) (by kernel_rfl) (fun _ _ _ h => h) (Or.inl ⟨by rfl, ?_⟩) (by assumption) ?_
      rotate_left
      · (intro w hSw; (try dsimp only at hSw); go_simp; (try (with_reducible rfl)))
      (try simp only [Act.put, List.setIfInBounds_toArray, List.set_cons_zero, List.set_cons_succ])
      refine wpAnyH_take (i := 20) (oi := ⟨some 184, _, _, _, _, _⟩) (v := ?_) rfl (by kernel_rfl) (by kernel_rfl) (by kernel_rfl) (fun _ _ _ h => h) (Or.inl ⟨by rfl, ?_⟩) (by assumption) ?_
      rotate_left
      · (intro w hSw; (try dsimp only at hSw); go_simp; (try (with_reducible rfl)))
      (try simp only [Act.put, List.setIfInBounds_toArray, List.set_cons_zero, List.set_cons_succ])
      refine wpAnyH_take (i := 21) (oi := ⟨some 185, _, _, _, _, _⟩) (v := ?_) rfl (by kernel_rfl) (by kernel_rfl) (by kernel_rfl) (fun _ _ _ h => h) (Or.inl ⟨by rfl, ?_⟩) (by assumption) ?_
      rotate_left
      · (intro w hSw; (try dsimp only at hSw); go_simp; (try (with_reducible rfl)))
      (try simp only [Act.put, List.setIfInBounds_toArray, List.set_cons_zero, List.set_cons_succ])
      refine wpAnyH_take (i := 22) (oi := ⟨some 186, _, _, _, _, _⟩) (v := ?_) rfl (by kernel_rfl) (by kernel_rfl) (by kernel_rfl) (fun _ _ _ h => h) (Or.inl ⟨by rfl, ?_⟩) (by assumption) ?_
      rotate_left
      · (intro w hSw; (try dsimp only at hSw); go_simp; (try (with_reducible rfl)))
      (try simp only [Act.put, List.setIfInBounds_toArray, List.set_cons_zero, List.set_cons_succ])
      refine wpAnyH_take (i := 23) (oi := ⟨some 187, _, _, _, _, _⟩) (v := ?_) rfl (by kernel_rfl) (by kernel_rfl) (by kernel_rfl) (fun _ _ _ h => h) (Or.inl ⟨by rfl, ?_⟩) (by assumption) ?_
      rotate_left
      · (intro w hSw; (try dsimp only at hSw); go_simp; (try (with_reducible rfl)))
      (try simp only [Act.put, List.setIfInBounds_toArray, List.set_cons_zero, List.set_cons_succ])
      refine wpAnyH_take (i := 24) (oi := ⟨some 188, _, _, _, _, _⟩) (v := ?_) rfl (by kernel_rfl) (by kernel_rfl) (by kernel_rfl) (fun _ _ _ h => h) (Or.inl ⟨by rfl, ?_⟩) (by assumption) ?_
      rotate_left
      · (intro w hSw; (try dsimp only at hSw); go_simp; (try (with_reducible rfl)))
      (try simp only [Act.put, List.setIfInBounds_toArray, List.set_cons_zero, List.set_cons_succ])
      refine wpAnyH_ready (rs := [25]) (by kernel_rfl) (by simp) (AllReadyH.cons (o := ⟨some 189, _, _, _, _, _⟩) rfl (fun K hK => ?_) AllReadyH.nil)
      rw [if_pos (by rfl)]
      go_simp
      go_at_call 20
      refine Calls.mono (aw_same _ _ _ _ P6.out Q6.out) ?_
      rintro e x3 ⟨he, hb⟩
      subst he
      have P6' := Lib.hid (P6.out.up hb)
      clear P6
      have P6 := P6'
      clear P6'
      have Q6' := Lib.hid (Q6.out.up hb)
      clear Q6
      have Q6 := Q6'
      clear Q6'
      have X' := Lib.hid (X.out.below hb)
      clear X
      have X := X'
      clear X'
      have HB' := Lib.hid (HB.out.trans (hb.mono HB.out.size))
      clear HB
      have HB := HB'
      clear HB' hb
      have qx30 := X.out.c0
      have qx31 := X.out.c1
      have qx32 := X.out.c2
      (try go_wp2_with fail)
      refine hK.out _ _ (by (try dsimp only); refine ⟨?_, ?_, ?_⟩ <;> first | with_reducible assumption | go_keep) (fun hHeld => ?_)
      clear hK K
      (try simp only [Act.put, List.setIfInBounds_toArray, List.set_cons_zero, List.set_cons_succ])
      refine wpAnyH_take (i := 26) (oi := ⟨some 190, _, _, _, _, _⟩) (v := ?_) rfl (by kernel_rfl) (by kernel_rfl) (by kernel_rfl) (fun _ _ _ h => h) (Or.inl ⟨by rfl, ?_⟩) (by assumption) ?_
      rotate_left
      · (intro w hSw; (try dsimp only at hSw); go_simp; (try (with_reducible rfl)))
      (try simp only [Act.put, List.setIfInBounds_toArray, List.set_cons_zero, List.set_cons_succ])
      refine wpAnyH_take (i := 27) (oi := ⟨some 191, _, _, _, _, _⟩) (v := ?_) rfl (by kernel_rfl) (by kernel_rfl) (by kernel_rfl) (fun _ _ _ h => h) (Or.inl ⟨by rfl, ?_⟩) (by assumption) ?_
      rotate_left
      · (intro w hSw; (try dsimp only at hSw); go_simp; (try (with_reducible rfl)))
      (try simp only [Act.put, List.setIfInBounds_toArray, List.set_cons_zero, List.set_cons_succ])
      refine wpAnyH_take (i := 28) (oi := ⟨some 192, _, _, _, _, _⟩) (v := ?_) rfl (by kernel_rfl) (by kernel_rfl) (by kernel_rfl) (fun _ _ _ h => h) (Or.inl ⟨by rfl, ?_⟩) (by assumption) ?_
      rotate_left
      · (intro w hSw; (try dsimp only at hSw); go_simp; (try (with_reducible rfl)))
      (try simp only [Act.put, List.setIfInBounds_toArray, List.set_cons_zero, List.set_cons_succ])
      refine wpAnyH_take (i := 29) (oi := ⟨some 193, _, _, _, _, _⟩) (v := ?_) rfl (by kernel_rfl) (by kernel_rfl) (by kernel_rfl) (fun _ _ _ h => h) (Or.inl ⟨by rfl, ?_⟩) (by assumption) ?_
      rotate_left
      · (intro w hSw; (try dsimp only at hSw); go_simp; (try (with_reducible rfl)))
      (try simp only [Act.put, List.setIfInBounds_toArray, List.set_cons_zero, List.set_cons_succ])
      refine wpAnyH_take (i := 30) (oi := ⟨some 194, _, _, _, _, _⟩) (v := ?_) rfl (by kernel_rfl) (by kernel_rfl) (by kernel_rfl) (fun _ _ _ h => h) (Or.inl ⟨by rfl, ?_⟩) (by assumption) ?_
      rotate_left
      · (intro w hSw; (try dsimp only at hSw); go_simp; (try (with_reducible rfl)))
      (try simp only [Act.put, List.setIfInBounds_toArray, List.set_cons_zero, List.set_cons_succ])
      refine wpAnyH_take (i := 31) (oi := ⟨some 195, _, _, _, _, _⟩) (v := ?_) rfl (by kernel_rfl) (by kernel_rfl) (by kernel_rfl) (fun _ _ _ h => h) (Or.inl ⟨by rfl, ?_⟩) (by assumption) ?_
      rotate_left
      · (intro w hSw; (try dsimp only at hSw); go_simp; (try (with_reducible rfl)))
      (try simp only [Act.put, List.setIfInBounds_toArray, List.set_cons_zero, List.set_cons_succ])
      refine wpAnyH_take (i := 32) (oi := ⟨some 196, _, _, _, _, _⟩) (v := ?_) rfl (by kernel_rfl) (by kernel_rfl) (by kernel_rfl) (fun _ _ _ h => h) (Or.inl ⟨by rfl, ?_⟩) (by assumption) ?_
      rotate_left
      · (intro w hSw; (try dsimp only at hSw); go_simp; (try (with_reducible rfl)))
      (try simp only [Act.put, List.setIfInBounds_toArray, List.set_cons_zero, List.set_cons_succ])
      refine wpAnyH_ready (rs := [33]) (by kernel_rfl) (by simp) (AllReadyH.cons (o := ⟨some 197, _, _, _, _, _⟩) rfl (fun K hK => ?_) AllReadyH.nil)
      rw [if_pos (by rfl)]
      go_simp
      go_at_call 15
      refine Calls.mono (awake_any _ (HT.out.below HB.out)) ?_
      rintro e x4 ⟨he, hb⟩
      subst he
      have P6' := Lib.hid (P6.out.up hb)
      clear P6
      have P6 := P6'
      clear P6'
      have Q6' := Lib.hid (Q6.out.up hb)
      clear Q6
      have Q6 := Q6'
      clear Q6'
      have X' := Lib.hid (X.out.below hb)
      clear X
      have X := X'
      clear X'
      have HB' := Lib.hid (HB.out.trans (hb.mono HB.out.size))
      clear HB
      have HB := HB'
      clear HB' hb
      have qx40 := X.out.c0
      have qx41 := X.out.c1
      have qx42 := X.out.c2
      (try go_wp2_with fail)
      refine hK.out _ _ (by (try dsimp only); refine ⟨?_, ?_, ?_⟩ <;> first | with_reducible assumption | go_keep) (fun hHeld => ?_)
      clear hK K
      (try simp only [Act.put, List.setIfInBounds_toArray, List.set_cons_zero, List.set_cons_succ])
      refine wpAnyH_take (i := 34) (oi := ⟨some 198, _, _, _, _, _⟩) (v := ?_) rfl (by kernel_rfl) (by kernel_rfl) (by kernel_rfl) (fun _ _ _ h => h) (Or.inl ⟨by rfl, ?_⟩) (by assumption) ?_
      rotate_left
      · (intro w hSw; (try dsimp only at hSw); go_simp; (try (with_reducible rfl)))
      (try simp only [Act.put, List.setIfInBounds_toArray, List.set_cons_zero, List.set_cons_succ])
      refine wpAnyH_take (i := 35) (oi := ⟨some 2, _, _, _, _, _⟩) (v := ?_) rfl (by kernel_rfl) (by kernel_rfl) (by kernel_rfl) (fun _ _ _ h => h) (Or.inl ⟨by rfl, ?_⟩) (by assumption) ?_
      rotate_left
      · (intro w hSw; (try dsimp only at hSw); go_simp; (try (with_reducible rfl)))
      (try simp only [Act.put, List.setIfInBounds_toArray, List.set_cons_zero, List.set_cons_succ])
      refine wpAnyH_done (by kernel_rfl) ?_ _
      refine NoPanic.normal ?_
      go_wp2_with fail
      go_ret
      exact ⟨rfl, HB.out⟩
    · clear G1 G2
      have X := Lib.hid (QX.new (s1 := s1) (n1 := .slice A1 n1 a1) (d1 := .slice B1 m1 b1) (s2 := s2) (n2 := .slice A2 n2 a2) (d2 := .slice B2 m2 b2) (k := k) w)
      have hb := al_below w (.cells #[.bool s1, .slice A1 n1 a1, .slice B1 m1 b1, .bool s2, .slice A2 n2 a2, .slice B2 m2 b2, .int .i64 k] 50)
      have HB' := Lib.hid (HB.out.trans (hb.mono HB.out.size))
      clear HB
      have HB := HB'
      clear HB' hb
      go_enter Tryz.func9, Tryz.ntmps9
      have zX0 := X.out.c0
      have zX1 := X.out.c1
      have zX2 := X.out.c2
      have zX3 := X.out.c3
      have zX4 := X.out.c4
      have zX5 := X.out.c5
      have zX6 := X.out.c6
      go_wp2_with fail
      generalize w.alloc (.cells #[.bool s1, .slice A1 n1 a1, .slice B1 m1 b1, .bool s2, .slice A2 n2 a2, .slice B2 m2 b2, .int .i64 k] 50) = w0 at *
      have hgx := X.out.lt
      clear hgx
      refine (F1.out s1 _).mono ?_
      rintro e w1 ⟨he, hb⟩
      subst he
      clear zX0 zX1 zX2 zX3 zX4 zX5 zX6
      have X' := Lib.hid (X.out.below hb)
      clear X
      have X := X'
      clear X'
      have HB' := Lib.hid (HB.out.trans (hb.mono HB.out.size))
      clear HB
      have HB := HB'
      clear HB'
      clear hb
      have zX0 := X.out.c0
      have zX1 := X.out.c1
      have zX2 := X.out.c2
      have zX3 := X.out.c3
      have zX4 := X.out.c4
      have zX5 := X.out.c5
      have zX6 := X.out.c6
      go_wp2_with fail
      refine (F2.out s2 _).mono ?_
      rintro e w2 ⟨he, hb⟩
      subst he
      clear zX0 zX1 zX2 zX3 zX4 zX5 zX6
      have X' := Lib.hid (X.out.below hb)
      clear X
      have X := X'
      clear X'
      have HB' := Lib.hid (HB.out.trans (hb.mono HB.out.size))
      clear HB
      have HB := HB'
      clear HB'
      clear hb
      have zX0 := X.out.c0
      have zX1 := X.out.c1
      have zX2 := X.out.c2
      have zX3 := X.out.c3
      have zX4 := X.out.c4
      have zX5 := X.out.c5
      have zX6 := X.out.c6
      go_wp2_with fail
      refine (awake_any _ (HT.out.below HB.out)).mono ?_
      rintro e w3 ⟨he, hb⟩
      subst he
      clear zX0 zX1 zX2 zX3 zX4 zX5 zX6
      go_wp2_with fail
      go_ret
      exact ⟨rfl, HB.out.trans (hb.mono HB.out.size)⟩
  · clear F2 G1 G2
    have X := Lib.hid (QX.new (s1 := s1) (n1 := .slice A1 n1 a1) (d1 := .slice B1 m1 b1) (s2 := s2) (n2 := .slice A2 n2 a2) (d2 := .slice B2 m2 b2) (k := k) w)
    have hb := al_below w (.cells #[.bool s1, .slice A1 n1 a1, .slice B1 m1 b1, .bool s2, .slice A2 n2 a2, .slice B2 m2 b2, .int .i64 k] 50)
    have HB' := Lib.hid (HB.out.trans (hb.mono HB.out.size))
    clear HB
    have HB := HB'
    clear HB' hb
    go_enter Tryz.func9, Tryz.ntmps9
    have zX0 := X.out.c0
    have zX1 := X.out.c1
    have zX2 := X.out.c2
    have zX3 := X.out.c3
    have zX4 := X.out.c4
    have zX5 := X.out.c5
    have zX6 := X.out.c6
    go_wp2_with fail
    generalize w.alloc (.cells #[.bool s1, .slice A1 n1 a1, .slice B1 m1 b1, .bool s2, .slice A2 n2 a2, .slice B2 m2 b2, .int .i64 k] 50) = w0 at *
    have hgx := X.out.lt
    clear hgx
    refine (F1.out s1 _).mono ?_
    rintro e w1 ⟨he, hb⟩
    subst he
    clear zX0 zX1 zX2 zX3 zX4 zX5 zX6
    have X' := Lib.hid (X.out.below hb)
    clear X
    have X := X'
    clear X'
    have HB' := Lib.hid (HB.out.trans (hb.mono HB.out.size))
    clear HB
    have HB := HB'
    clear HB'
    clear hb
    have zX0 := X.out.c0
    have zX1 := X.out.c1
    have zX2 := X.out.c2
    have zX3 := X.out.c3
    have zX4 := X.out.c4
    have zX5 := X.out.c5
    have zX6 := X.out.c6
    go_wp2_with fail
    refine (awake_any _ (HT.out.below HB.out)).mono ?_
    rintro e w2 ⟨he, hb⟩
    subst he
    clear zX0 zX1 zX2 zX3 zX4 zX5 zX6
    go_wp2_with fail
    go_ret
    exact ⟨rfl, HB.out.trans (hb.mono HB.out.size)⟩
end Go.Proofs.YtlababdfdjjjaaaGreatDoor
