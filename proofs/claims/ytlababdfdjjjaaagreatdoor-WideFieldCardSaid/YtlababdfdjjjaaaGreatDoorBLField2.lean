import Derived.Test.YtlababdfdjjjaaaGreatDoorBLField
namespace Go.Proofs.YtlababdfdjjjaaaGreatDoor
open Go.RowKit

set_option maxRecDepth 100000 in
set_option maxHeartbeats 16000000 in
theorem lawWideField_any (s1 s2 : Bool) (A1 B1 A2 B2 : Option Addr) (n1 a1 m1 b1 n2 a2 m2 b2 : Nat) (k : Int) (ln1 ld1 ln2 ld2 : List Nat) (w : World) (hT : Tabs w) (f3 : n1 ≤ 100000000 → Arg w (.slice A1 n1 a1) ln1) (f4 : m1 ≤ 100000000 → Arg w (.slice B1 m1 b1) ld1) (f7 : n2 ≤ 100000000 → Arg w (.slice A2 n2 a2) ln2) (f8 : m2 ≤ 100000000 → Arg w (.slice B2 m2 b2) ld2) :
    Calls Tryz.prog 14 #[.agg #[.bool s1, .slice A1 n1 a1, .slice B1 m1 b1, .bool s2, .slice A2 n2 a2, .slice B2 m2 b2, .int .i64 k]] w fun e w' => e = .returned (.bool true) ∧ Below w.heap.size w w' := by
  obtain ⟨M, hmx0, hM8⟩ := max_four (n1 : Int) (m1 : Int) (n2 : Int) (m2 : Int)
  by_cases hbig : 8 < M
  · have HT := Lib.hid hT
    have HB := Lib.hid (Below.refl w.heap.size w)
    have hmx := fun w ts t => hmx0 Tryz.prog w ts t
    clear hmx0 hM8 f3 f4 f7 f8 hT
    have X := Lib.hid (QX.new (s1 := s1) (n1 := .slice A1 n1 a1) (d1 := .slice B1 m1 b1) (s2 := s2) (n2 := .slice A2 n2 a2) (d2 := .slice B2 m2 b2) (k := k) w)
    have hb := al_below w (.cells #[.bool s1, .slice A1 n1 a1, .slice B1 m1 b1, .bool s2, .slice A2 n2 a2, .slice B2 m2 b2, .int .i64 k] 50)
    have HB' := Lib.hid (HB.out.trans (hb.mono HB.out.size))
    clear HB
    have HB := HB'
    clear HB' hb
    go_enter Tryz.func14, Tryz.ntmps14
    have zX0 := X.out.c0
    have zX1 := X.out.c1
    have zX2 := X.out.c2
    have zX3 := X.out.c3
    have zX4 := X.out.c4
    have zX5 := X.out.c5
    have zX6 := X.out.c6
    go_wp2_with fail
    generalize w.alloc (.cells #[.bool s1, .slice A1 n1 a1, .slice B1 m1 b1, .bool s2, .slice A2 n2 a2, .slice B2 m2 b2, .int .i64 k] 50) = w0 at *
    clear hmx
    refine (awake_any _ (HT.out.below HB.out)).mono ?_
    rintro e w1 ⟨he, hb⟩
    subst he
    clear zX0 zX1 zX2 zX3 zX4 zX5 zX6
    go_wp2_with fail
    go_ret
    exact ⟨rfl, HB.out.trans (hb.mono HB.out.size)⟩
  · have hle := hM8.1 (by omega)
    have h1 := f3 (by omega)
    have h2 := f4 (by omega)
    have h3 := f7 (by omega)
    have h4 := f8 (by omega)
    have hl1 : ln1.length = n1 := by
      obtain ⟨_, _, e, _⟩ := h1.1.form
      injection e with _ e _
      exact e.symm
    have hl2 : ld1.length = m1 := by
      obtain ⟨_, _, e, _⟩ := h2.1.form
      injection e with _ e _
      exact e.symm
    have hl3 : ln2.length = n2 := by
      obtain ⟨_, _, e, _⟩ := h3.1.form
      injection e with _ e _
      exact e.symm
    have hl4 : ld2.length = m2 := by
      obtain ⟨_, _, e, _⟩ := h4.1.form
      injection e with _ e _
      exact e.symm
    have hp1 : ∀ W, Below w.heap.size w W → Calls Tryz.prog 62 #[.agg #[.bool s1, .slice A1 n1 a1, .slice B1 m1 b1]] W fun e w' => e = .returned (.bool (properW s1 ln1 ld1)) ∧ Below W.heap.size W w' := fun W hW => Proper_any s1 _ _ ln1 ld1 W (h1.up hW) (h2.up hW)
    have hp2 : ∀ W, Below w.heap.size w W → Calls Tryz.prog 62 #[.agg #[.bool s2, .slice A2 n2 a2, .slice B2 m2 b2]] W fun e w' => e = .returned (.bool (properW s2 ln2 ld2)) ∧ Below W.heap.size W w' := fun W hW => Proper_any s2 _ _ ln2 ld2 W (h3.up hW) (h4.up hW)
    cases p1 : properW s1 ln1 ld1
    · rw [p1] at hp1
      have HT := Lib.hid hT
      have HB := Lib.hid (Below.refl w.heap.size w)
      have hmx := fun w ts t => hmx0 Tryz.prog w ts t
      have HP1 := Lib.hid hp1
      have t8 : ¬ 8 < M := hbig
      clear hmx0 hM8 f3 f4 f7 f8 hT h1 h2 h3 h4 hl1 hl2 hl3 hl4 hp1 hp2 p1 hle hbig
      have X := Lib.hid (QX.new (s1 := s1) (n1 := .slice A1 n1 a1) (d1 := .slice B1 m1 b1) (s2 := s2) (n2 := .slice A2 n2 a2) (d2 := .slice B2 m2 b2) (k := k) w)
      have hb := al_below w (.cells #[.bool s1, .slice A1 n1 a1, .slice B1 m1 b1, .bool s2, .slice A2 n2 a2, .slice B2 m2 b2, .int .i64 k] 50)
      have HB' := Lib.hid (HB.out.trans (hb.mono HB.out.size))
      clear HB
      have HB := HB'
      clear HB' hb
      go_enter Tryz.func14, Tryz.ntmps14
      have zX0 := X.out.c0
      have zX1 := X.out.c1
      have zX2 := X.out.c2
      have zX3 := X.out.c3
      have zX4 := X.out.c4
      have zX5 := X.out.c5
      have zX6 := X.out.c6
      go_wp2_with fail
      generalize w.alloc (.cells #[.bool s1, .slice A1 n1 a1, .slice B1 m1 b1, .bool s2, .slice A2 n2 a2, .slice B2 m2 b2, .int .i64 k] 50) = w0 at *
      clear hmx
      refine (HP1.out _ HB.out).mono ?_
      rintro e w1 ⟨he, hb⟩
      subst he
      clear zX0 zX1 zX2 zX3 zX4 zX5 zX6
      have X' := Lib.hid (X.out.below hb)
      clear X
      have X := X'
      clear X'
      have HB' := Lib.hid (HB.out.trans (hb.mono HB.out.size))
      clear HB
      have HB := HB'
      clear HB'
      clear hb
      have zX0 := X.out.c0
      have zX1 := X.out.c1
      have zX2 := X.out.c2
      have zX3 := X.out.c3
      have zX4 := X.out.c4
      have zX5 := X.out.c5
      have zX6 := X.out.c6
      go_wp2_with fail
      refine (awake_any _ (HT.out.below HB.out)).mono ?_
      rintro e w2 ⟨he, hb⟩
      subst he
      clear zX0 zX1 zX2 zX3 zX4 zX5 zX6
      go_wp2_with fail
      go_ret
      exact ⟨rfl, HB.out.trans (hb.mono HB.out.size)⟩
    cases p2 : properW s2 ln2 ld2
    · rw [p1] at hp1
      rw [p2] at hp2
      have HT := Lib.hid hT
      have HB := Lib.hid (Below.refl w.heap.size w)
      have hmx := fun w ts t => hmx0 Tryz.prog w ts t
      have HP1 := Lib.hid hp1
      have HP2 := Lib.hid hp2
      have t8 : ¬ 8 < M := hbig
      clear hmx0 hM8 f3 f4 f7 f8 hT h1 h2 h3 h4 hl1 hl2 hl3 hl4 hp1 hp2 p1 p2 hle hbig
      have X := Lib.hid (QX.new (s1 := s1) (n1 := .slice A1 n1 a1) (d1 := .slice B1 m1 b1) (s2 := s2) (n2 := .slice A2 n2 a2) (d2 := .slice B2 m2 b2) (k := k) w)
      have hb := al_below w (.cells #[.bool s1, .slice A1 n1 a1, .slice B1 m1 b1, .bool s2, .slice A2 n2 a2, .slice B2 m2 b2, .int .i64 k] 50)
      have HB' := Lib.hid (HB.out.trans (hb.mono HB.out.size))
      clear HB
      have HB := HB'
      clear HB' hb
      go_enter Tryz.func14, Tryz.ntmps14
      have zX0 := X.out.c0
      have zX1 := X.out.c1
      have zX2 := X.out.c2
      have zX3 := X.out.c3
      have zX4 := X.out.c4
      have zX5 := X.out.c5
      have zX6 := X.out.c6
      go_wp2_with fail
      generalize w.alloc (.cells #[.bool s1, .slice A1 n1 a1, .slice B1 m1 b1, .bool s2, .slice A2 n2 a2, .slice B2 m2 b2, .int .i64 k] 50) = w0 at *
      clear hmx
      refine (HP1.out _ HB.out).mono ?_
      rintro e w1 ⟨he, hb⟩
      subst he
      clear zX0 zX1 zX2 zX3 zX4 zX5 zX6
      have X' := Lib.hid (X.out.below hb)
      clear X
      have X := X'
      clear X'
      have HB' := Lib.hid (HB.out.trans (hb.mono HB.out.size))
      clear HB
      have HB := HB'
      clear HB'
      clear hb
      have zX0 := X.out.c0
      have zX1 := X.out.c1
      have zX2 := X.out.c2
      have zX3 := X.out.c3
      have zX4 := X.out.c4
      have zX5 := X.out.c5
      have zX6 := X.out.c6
      go_wp2_with fail
      refine (HP2.out _ HB.out).mono ?_
      rintro e w2 ⟨he, hb⟩
      subst he
      clear zX0 zX1 zX2 zX3 zX4 zX5 zX6
      have X' := Lib.hid (X.out.below hb)
      clear X
      have X := X'
      clear X'
      have HB' := Lib.hid (HB.out.trans (hb.mono HB.out.size))
      clear HB
      have HB := HB'
      clear HB'
      clear hb
      have zX0 := X.out.c0
      have zX1 := X.out.c1
      have zX2 := X.out.c2
      have zX3 := X.out.c3
      have zX4 := X.out.c4
      have zX5 := X.out.c5
      have zX6 := X.out.c6
      go_wp2_with fail
      refine (awake_any _ (HT.out.below HB.out)).mono ?_
      rintro e w3 ⟨he, hb⟩
      subst he
      clear zX0 zX1 zX2 zX3 zX4 zX5 zX6
      go_wp2_with fail
      go_ret
      exact ⟨rfl, HB.out.trans (hb.mono HB.out.size)⟩
    rw [p1] at hp1
    rw [p2] at hp2
    obtain ⟨N1, D1, q1⟩ := fq_of h1 h2 p1 (by omega) (by omega)
    obtain ⟨N2, D2, q2⟩ := fq_of h3 h4 p2 (by omega) (by omega)
    exact mainWideField_any s1 s2 A1 B1 A2 B2 n1 a1 m1 b1 n2 a2 m2 b2 k N1 N2 D1 D2 w hT q1 q2 (by omega) hp1 hp2
end Go.Proofs.YtlababdfdjjjaaaGreatDoor
