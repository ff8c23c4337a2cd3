import Derived.Test.YtmmgbofhbnflkaaIL2
import Derived.Test.YtmmgbofhbnflkaaI6
namespace Go.Proofs.Ytmmgbofhbnflkaa
open Go.RowKit

theorem Fm.over2 {w w' : World} {K : List (Nat × Value × Value)} {r g : Nat} (h : Fm w K r w') (hg : ∀ t ∈ K, t.1 ≠ g) (hr : r < g) (u v : Value) : Fm w K r ((w'.setCell ⟨g, 0, none⟩ u).setCell ⟨g, 1, none⟩ v) :=
  (h.over hg hr 0 u).over hg hr 1 v

set_option maxRecDepth 100000 in
set_option maxHeartbeats 2000000 in
theorem corners_walk (a1 a2 b1 b2 wh p0 q0 p1 q1 p2 q2 p3 q3 m2 n2 m3 n3 m4 n4 : Int) (w : World)
    (H0 : ∀ w, Calls Try.prog 39 #[.int .i64 a1, .int .i64 b1, .int .i64 wh] w fun e w' => e = .returned (.agg #[.int .i64 p0, .int .i64 q0]) ∧ Below w.heap.size w w')
    (H1 : ∀ w, Calls Try.prog 39 #[.int .i64 a2, .int .i64 b1, .int .i64 wh] w fun e w' => e = .returned (.agg #[.int .i64 p1, .int .i64 q1]) ∧ Below w.heap.size w w')
    (H2 : ∀ w, Calls Try.prog 39 #[.int .i64 a1, .int .i64 b2, .int .i64 wh] w fun e w' => e = .returned (.agg #[.int .i64 p2, .int .i64 q2]) ∧ Below w.heap.size w w')
    (H3 : ∀ w, Calls Try.prog 39 #[.int .i64 a2, .int .i64 b2, .int .i64 wh] w fun e w' => e = .returned (.agg #[.int .i64 p3, .int .i64 q3]) ∧ Below w.heap.size w w')
    (hm2 : min p0 p1 = m2) (hn2 : max q0 q1 = n2) (hm3 : min m2 p2 = m3) (hn3 : max n2 q2 = n3) (hm4 : min m3 p3 = m4) (hn4 : max n3 q3 = n4) :
    Calls Try.prog 40 #[(.agg #[.int .i64 a1, .int .i64 a2]), (.agg #[.int .i64 b1, .int .i64 b2]), .int .i64 wh] w fun e w' => e = .returned (.agg #[.int .i64 m4, .int .i64 n4]) ∧ Below w.heap.size w w' := by
  have IV := Lib.hid iv_g
  have H0 := Lib.hid H0
  have H1 := Lib.hid H1
  have H2 := Lib.hid H2
  have H3 := Lib.hid H3
  go_enter Try.func40, Try.ntmps40
  have F0 := Fm.of3 (w := w) (w1 := _) (x := .int .i64 a1) (y := .int .i64 a2) (z := .int .i64 b1) (u := .int .i64 b2) (p := .int .i64 0) (q := .int .i64 0) (s := 23) (t := 23) (r := 23) (Below.refl _ _)
  have K0 := Cell2.new (((w.alloc (.cells #[.int .i64 a1, .int .i64 a2] 23)).alloc (.cells #[.int .i64 b1, .int .i64 b2] 23)).alloc (.cells #[.int .i64 0, .int .i64 0] 23)) (.int .i64 0) (.int .i64 0) 23
  have F1 := F0.alloc (.cells #[.int .i64 0, .int .i64 0] 23)
  rw [show (((w.alloc (.cells #[.int .i64 a1, .int .i64 a2] 23)).alloc (.cells #[.int .i64 b1, .int .i64 b2] 23)).alloc (.cells #[.int .i64 0, .int .i64 0] 23)).heap.size = w.heap.size + 1 + 1 + 1 by simp] at K0
  have hK9 : ∀ t ∈ [(w.heap.size, (.int .i64 a1 : Value), (.int .i64 a2 : Value)), (w.heap.size + 1, .int .i64 b1, .int .i64 b2)], t.1 ≠ w.heap.size + 1 + 1 + 1 := by
    intro t ht
    simp at ht
    rcases ht with rfl | rfl <;> simp only <;> omega
  have HK := Lib.hid hK9
  have F2 := Lib.hid F1
  have K2 := Lib.hid K0
  clear F0 F1 K0 hK9
  go_wp2_with fail
  go_loopw [8] (fun i wr => ∃ k : Nat, k ≤ 4 ∧ i = .int .i64 (k : Int) ∧ Fm w [(w.heap.size, .int .i64 a1, .int .i64 a2), (w.heap.size + 1, .int .i64 b1, .int .i64 b2)] (w.heap.size + 1 + 1) wr ∧ Cell2 wr (w.heap.size + 1 + 1 + 1) (.int .i64 (([0, p0, m2, m3, m4] : List Int).getD k 0)) (.int .i64 (([0, q0, n2, n3, n4] : List Int).getD k 0))) (fun i _ => 4 - (intOf i).toNat)
  case atStart => exact ⟨0, by omega, rfl, F2.out, K2.out⟩
  case round =>
    clear F2 K2
    obtain ⟨k, hk, rfl, hF, hK⟩ := hrel
    have hkk : k = 0 ∨ k = 1 ∨ k = 2 ∨ k = 3 ∨ k = 4 := by omega
    rcases hkk with rfl | rfl | rfl | rfl | rfl
    · simp only [List.getD_cons_zero, List.getD_cons_succ] at hK
      have ka := hF.k0
      have kb := hF.k1
      have ca0 := ka.c0
      have ca1 := ka.c1
      have cb0 := kb.c0
      have cb1 := kb.c1
      have HF := Lib.hid hF
      have HO := Lib.hid hK
      clear hF hK ka kb
      go_wp2_with fail
      go_quiet (fail)
      go_wp2_with fail
      clear ca0 ca1 cb0 cb1
      refine (H0.out _).mono ?_
      rintro e w1 ⟨he, hb⟩
      subst he
      have F3 := Lib.hid (((HF.out.drewN nq).later hb).alloc (.cells #[.int .i64 p0, .int .i64 q0] 23))
      have K3 := ((HO.out.drewN nq).later hb).alloc (.cells #[.int .i64 p0, .int .i64 q0] 23)
      have N3 := Cell2.new w1 (.int .i64 p0) (.int .i64 q0) 23
      have hne : w1.heap.size ≠ (w.heap.size + 1 + 1 + 1) := by have := ((HO.out.drewN nq).later hb).lt; omega
      have HNE := Lib.hid hne
      clear hb hne
      obtain ⟨w2, hw2⟩ : ∃ w2, w1.alloc (.cells #[.int .i64 p0, .int .i64 q0] 23) = w2 := ⟨_, rfl⟩
      obtain ⟨g, hg⟩ : ∃ g, w1.heap.size = g := ⟨_, rfl⟩
      rw [hw2] at F3 K3 N3
      rw [hg] at N3 HNE
      have n0 := N3.c0
      have n1 := N3.c1
      have o0 := K3.c0
      have o1 := K3.c1
      have of0 := K3.f0
      have of1 := K3.f1
      have F4 := F3.out.over2 HK.out (by omega) (.int .i64 p0) (.int .i64 q0)
      have K4 := K3.set (.int .i64 p0) (.int .i64 q0)
      have N4 := (N3.setOther HNE.out 0 (.int .i64 p0)).setOther HNE.out 1 (.int .i64 q0)
      obtain ⟨w3, hw3⟩ : ∃ w3, (w2.setCell ⟨w.heap.size + 1 + 1 + 1, 0, none⟩ (.int .i64 p0)).setCell ⟨w.heap.size + 1 + 1 + 1, 1, none⟩ (.int .i64 q0) = w3 := ⟨_, rfl⟩
      rw [hw3] at F4 K4 N4
      have r0 := N4.c0
      have r1 := N4.c1
      have s0 := K4.c0
      have s1 := K4.c1
      have sf0 := K4.f0
      have sf1 := K4.f1
      have F4' := Lib.hid F4
      clear F3 F4
      have F3 := F4'
      clear F4'
      have K3 := K4
      have N3 := N4
      clear K4 N4
      go_wp2_with fail
      refine (IV.out p0 q0 _).mono ?_
      rintro e w4 ⟨he, hb⟩
      subst he
      have F5 := Lib.hid (((F3.out.later hb).over2 HK.out (by omega) (.int .i64 p0) (.int .i64 q0)))
      have K5 := K3.later hb
      have o0' := K5.c0
      have o1' := K5.c1
      have of0' := K5.f0
      have of1' := K5.f1
      have K6 := Lib.hid (K5.set (.int .i64 p0) (.int .i64 q0))
      clear n0 n1 o0 o1 of0 of1 K3 N3 F3 K5 hb hw2 hg
      clear r0 r1 s0 s1 sf0 sf1 hw3
      go_wp2_with fail
      first
        | exact ⟨⟨1, by omega, rfl, F5.out, K6.out⟩, by simp [intOf]⟩
        | (go_roundw
           case rel => exact ⟨1, by omega, rfl, F5.out, K6.out⟩
           case measure => simp [intOf])
    · simp only [List.getD_cons_zero, List.getD_cons_succ] at hK
      have ka := hF.k0
      have kb := hF.k1
      have ca0 := ka.c0
      have ca1 := ka.c1
      have cb0 := kb.c0
      have cb1 := kb.c1
      have HF := Lib.hid hF
      have HO := Lib.hid hK
      clear hF hK ka kb
      go_wp2_with fail
      go_quiet (fail)
      go_wp2_with fail
      clear ca0 ca1 cb0 cb1
      refine (H1.out _).mono ?_
      rintro e w1 ⟨he, hb⟩
      subst he
      have F3 := Lib.hid (((HF.out.drewN nq).later hb).alloc (.cells #[.int .i64 p1, .int .i64 q1] 23))
      have K3 := ((HO.out.drewN nq).later hb).alloc (.cells #[.int .i64 p1, .int .i64 q1] 23)
      have N3 := Cell2.new w1 (.int .i64 p1) (.int .i64 q1) 23
      have hne : w1.heap.size ≠ (w.heap.size + 1 + 1 + 1) := by have := ((HO.out.drewN nq).later hb).lt; omega
      have HNE := Lib.hid hne
      clear hb hne
      obtain ⟨w2, hw2⟩ : ∃ w2, w1.alloc (.cells #[.int .i64 p1, .int .i64 q1] 23) = w2 := ⟨_, rfl⟩
      obtain ⟨g, hg⟩ : ∃ g, w1.heap.size = g := ⟨_, rfl⟩
      rw [hw2] at F3 K3 N3
      rw [hg] at N3 HNE
      have n0 := N3.c0
      have n1 := N3.c1
      have o0 := K3.c0
      have o1 := K3.c1
      have of0 := K3.f0
      have of1 := K3.f1
      go_wp2_with fail
      refine (IV.out m2 n2 _).mono ?_
      rintro e w4 ⟨he, hb⟩
      subst he
      have F5 := Lib.hid (((F3.out.later hb).over2 HK.out (by omega) (.int .i64 m2) (.int .i64 n2)))
      have K5 := K3.later hb
      have o0' := K5.c0
      have o1' := K5.c1
      have of0' := K5.f0
      have of1' := K5.f1
      have K6 := Lib.hid (K5.set (.int .i64 m2) (.int .i64 n2))
      clear n0 n1 o0 o1 of0 of1 K3 N3 F3 K5 hb hw2 hg

      go_wp2_with fail
      first
        | exact ⟨⟨2, by omega, rfl, F5.out, K6.out⟩, by simp [intOf]⟩
        | (go_roundw
           case rel => exact ⟨2, by omega, rfl, F5.out, K6.out⟩
           case measure => simp [intOf])
    · simp only [List.getD_cons_zero, List.getD_cons_succ] at hK
      have ka := hF.k0
      have kb := hF.k1
      have ca0 := ka.c0
      have ca1 := ka.c1
      have cb0 := kb.c0
      have cb1 := kb.c1
      have HF := Lib.hid hF
      have HO := Lib.hid hK
      clear hF hK ka kb
      go_wp2_with fail
      go_quiet (fail)
      go_wp2_with fail
      clear ca0 ca1 cb0 cb1
      refine (H2.out _).mono ?_
      rintro e w1 ⟨he, hb⟩
      subst he
      have F3 := Lib.hid (((HF.out.drewN nq).later hb).alloc (.cells #[.int .i64 p2, .int .i64 q2] 23))
      have K3 := ((HO.out.drewN nq).later hb).alloc (.cells #[.int .i64 p2, .int .i64 q2] 23)
      have N3 := Cell2.new w1 (.int .i64 p2) (.int .i64 q2) 23
      have hne : w1.heap.size ≠ (w.heap.size + 1 + 1 + 1) := by have := ((HO.out.drewN nq).later hb).lt; omega
      have HNE := Lib.hid hne
      clear hb hne
      obtain ⟨w2, hw2⟩ : ∃ w2, w1.alloc (.cells #[.int .i64 p2, .int .i64 q2] 23) = w2 := ⟨_, rfl⟩
      obtain ⟨g, hg⟩ : ∃ g, w1.heap.size = g := ⟨_, rfl⟩
      rw [hw2] at F3 K3 N3
      rw [hg] at N3 HNE
      have n0 := N3.c0
      have n1 := N3.c1
      have o0 := K3.c0
      have o1 := K3.c1
      have of0 := K3.f0
      have of1 := K3.f1
      go_wp2_with fail
      refine (IV.out m3 n3 _).mono ?_
      rintro e w4 ⟨he, hb⟩
      subst he
      have F5 := Lib.hid (((F3.out.later hb).over2 HK.out (by omega) (.int .i64 m3) (.int .i64 n3)))
      have K5 := K3.later hb
      have o0' := K5.c0
      have o1' := K5.c1
      have of0' := K5.f0
      have of1' := K5.f1
      have K6 := Lib.hid (K5.set (.int .i64 m3) (.int .i64 n3))
      clear n0 n1 o0 o1 of0 of1 K3 N3 F3 K5 hb hw2 hg

      go_wp2_with fail
      first
        | exact ⟨⟨3, by omega, rfl, F5.out, K6.out⟩, by simp [intOf]⟩
        | (go_roundw
           case rel => exact ⟨3, by omega, rfl, F5.out, K6.out⟩
           case measure => simp [intOf])
    · simp only [List.getD_cons_zero, List.getD_cons_succ] at hK
      have ka := hF.k0
      have kb := hF.k1
      have ca0 := ka.c0
      have ca1 := ka.c1
      have cb0 := kb.c0
      have cb1 := kb.c1
      have HF := Lib.hid hF
      have HO := Lib.hid hK
      clear hF hK ka kb
      go_wp2_with fail
      go_quiet (fail)
      go_wp2_with fail
      clear ca0 ca1 cb0 cb1
      refine (H3.out _).mono ?_
      rintro e w1 ⟨he, hb⟩
      subst he
      have F3 := Lib.hid (((HF.out.drewN nq).later hb).alloc (.cells #[.int .i64 p3, .int .i64 q3] 23))
      have K3 := ((HO.out.drewN nq).later hb).alloc (.cells #[.int .i64 p3, .int .i64 q3] 23)
      have N3 := Cell2.new w1 (.int .i64 p3) (.int .i64 q3) 23
      have hne : w1.heap.size ≠ (w.heap.size + 1 + 1 + 1) := by have := ((HO.out.drewN nq).later hb).lt; omega
      have HNE := Lib.hid hne
      clear hb hne
      obtain ⟨w2, hw2⟩ : ∃ w2, w1.alloc (.cells #[.int .i64 p3, .int .i64 q3] 23) = w2 := ⟨_, rfl⟩
      obtain ⟨g, hg⟩ : ∃ g, w1.heap.size = g := ⟨_, rfl⟩
      rw [hw2] at F3 K3 N3
      rw [hg] at N3 HNE
      have n0 := N3.c0
      have n1 := N3.c1
      have o0 := K3.c0
      have o1 := K3.c1
      have of0 := K3.f0
      have of1 := K3.f1
      go_wp2_with fail
      refine (IV.out m4 n4 _).mono ?_
      rintro e w4 ⟨he, hb⟩
      subst he
      have F5 := Lib.hid (((F3.out.later hb).over2 HK.out (by omega) (.int .i64 m4) (.int .i64 n4)))
      have K5 := K3.later hb
      have o0' := K5.c0
      have o1' := K5.c1
      have of0' := K5.f0
      have of1' := K5.f1
      have K6 := Lib.hid (K5.set (.int .i64 m4) (.int .i64 n4))
      clear n0 n1 o0 o1 of0 of1 K3 N3 F3 K5 hb hw2 hg

      go_wp2_with fail
      first
        | exact ⟨⟨4, by omega, rfl, F5.out, K6.out⟩, by simp [intOf]⟩
        | (go_roundw
           case rel => exact ⟨4, by omega, rfl, F5.out, K6.out⟩
           case measure => simp [intOf])
    · simp only [List.getD_cons_zero, List.getD_cons_succ] at hK
      have n0 := hK.c0
      have n1 := hK.c1
      obtain ⟨p, q, hr⟩ := hF.res
      have c30 := hr.c0
      have c31 := hr.c1
      have f30 := hr.f0
      have f31 := hr.f1
      have HF := Lib.hid hF
      clear hF hK hr
      go_wp2_with fail
      refine bodyPost_ret (v := .agg #[.int .i64 m4, .int .i64 n4]) (by simp [results, Try.results40, c30, c31, go_sem]) rfl ⟨rfl, (HF.out.set _ _).bl⟩
end Go.Proofs.Ytmmgbofhbnflkaa
