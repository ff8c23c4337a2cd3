import Derived.Test.YtmmgbofhbnflkaaI14
namespace Go.Proofs.Ytmmgbofhbnflkaa
open Go.RowKit

def ordV (r : Int × Int) : Value := .tuple #[.int .i64 r.1, .int .i64 r.2]
theorem below_g : ∀ (a b c d : Int) (w : World), Calls Try.prog 65 #[.agg #[.int .i64 a, .int .i64 b], .agg #[.int .i64 c, .int .i64 d]] w fun e w' => e = .returned (.bool (decide (b < c))) ∧ Below w.heap.size w w' := fun a b c d w => below_any (a, b) (c, d) w

set_option maxRecDepth 100000 in
set_option maxHeartbeats 1000000 in
theorem hull_any (a b : Int × Int) (w : World) (ha : I64 a.1 ∧ I64 a.2) (hb : I64 b.1 ∧ I64 b.2) :
    Calls Try.prog 31 #[ivV a, ivV b] w fun e w' => e = .returned (ivE (hullW a b)) ∧ Below w.heap.size w w' := by
  have hex := fun W n hn => exam2_at a b W n hn ha hb
  have HEX := Lib.hid hex
  clear hex ha hb
  have BG := Lib.hid below_g
  by_cases h0 : examI [a, b] = 0
  · rw [h0] at HEX
    obtain ⟨a1, a2⟩ := a
    obtain ⟨b1, b2⟩ := b
    simp only at HEX
    unfold ivV
    simp only
    have hR : ivE (hullW (a1, a2) (b1, b2)) = .tuple #[.agg #[.int .i64 (min a1 b1), .int .i64 (max a2 b2)], .int .i64 0] := by unfold hullW; rw [if_pos h0]; rfl
    rw [hR]
    clear hR h0
    go_enter Try.func31, Try.ntmps31
    go_wp2_with fail
    refine (HEX.out _ _ (by simp)).mono ?_
    rintro e w1 ⟨he, hb⟩
    subst he
    have F1 := Fm.of3 hb
    have c10 := F1.k0.c0
    have c11 := F1.k0.c1
    have c20 := F1.k1.c0
    have c21 := F1.k1.c1
    obtain ⟨p, q, hr⟩ := F1.res
    have c30 := hr.c0
    have c31 := hr.c1
    have f30 := hr.f0
    have f31 := hr.f1
    clear hb hr
    have FB := Lib.hid F1
    clear F1
    go_wp2_with fail
    refine bodyPost_ret (v := .tuple #[.agg #[.int .i64 (min a1 b1), .int .i64 (max a2 b2)], .int .i64 0]) (by simp [results, Try.results31, c30, c31, go_sem]) rfl ⟨rfl, (FB.out.set _ _).bl⟩
  · have hR : ivE (hullW a b) = .tuple #[.agg #[.int .i64 0, .int .i64 0], .int .i64 (examI [a, b])] := by unfold hullW; rw [if_neg h0]; rfl
    rw [hR]
    clear hR
    unfold ivV
    generalize examI [a, b] = er at *
    have q1 : (er == 0) = false := by simp [h0]
    have q2 : (er != 0) = true := by simp [h0]
    clear h0
    go_enter Try.func31, Try.ntmps31
    go_wp2_with fail
    refine (HEX.out _ _ (by simp)).mono ?_
    rintro e w1 ⟨he, hb⟩
    subst he
    have F1 := Fm.of3 hb
    have c10 := F1.k0.c0
    have c11 := F1.k0.c1
    have c20 := F1.k1.c0
    have c21 := F1.k1.c1
    obtain ⟨p, q, hr⟩ := F1.res
    have c30 := hr.c0
    have c31 := hr.c1
    have f30 := hr.f0
    have f31 := hr.f1
    clear hb hr
    have FB := Lib.hid F1
    clear F1
    go_wp2_with fail
    refine bodyPost_ret (v := .tuple #[.agg #[.int .i64 0, .int .i64 0], .int .i64 er]) (by simp [results, Try.results31, c30, c31, go_sem]) rfl ⟨rfl, (FB.out.set _ _).bl⟩

set_option maxRecDepth 100000 in
set_option maxHeartbeats 1000000 in
theorem rhull_any (a b : Int × Int) (w : World)  :
    Calls Try.prog 32 #[ivV a, ivV b] w fun e w' => e = .returned (ivE (hullW a b)) ∧ Below w.heap.size w w' := by
  have hex := fun W n hn => bad2_at a b W n hn
  have HEX := Lib.hid hex
  clear hex
  have BG := Lib.hid below_g
  by_cases h0 : examI [a, b] = 0
  · rw [h0] at HEX
    obtain ⟨a1, a2⟩ := a
    obtain ⟨b1, b2⟩ := b
    simp only at HEX
    unfold ivV
    simp only
    have hR : ivE (hullW (a1, a2) (b1, b2)) = .tuple #[.agg #[.int .i64 (min a1 b1), .int .i64 (max a2 b2)], .int .i64 0] := by unfold hullW; rw [if_pos h0]; rfl
    rw [hR]
    clear hR h0
    go_enter Try.func32, Try.ntmps32
    go_wp2_with fail
    refine (HEX.out _ _ (by simp)).mono ?_
    rintro e w1 ⟨he, hb⟩
    subst he
    have F1 := Fm.of3 hb
    have c10 := F1.k0.c0
    have c11 := F1.k0.c1
    have c20 := F1.k1.c0
    have c21 := F1.k1.c1
    obtain ⟨p, q, hr⟩ := F1.res
    have c30 := hr.c0
    have c31 := hr.c1
    have f30 := hr.f0
    have f31 := hr.f1
    clear hb hr
    have FB := Lib.hid F1
    clear F1
    go_wp2_with fail
    refine bodyPost_ret (v := .tuple #[.agg #[.int .i64 (min a1 b1), .int .i64 (max a2 b2)], .int .i64 0]) (by simp [results, Try.results32, c30, c31, go_sem]) rfl ⟨rfl, (FB.out.set _ _).bl⟩
  · have hR : ivE (hullW a b) = .tuple #[.agg #[.int .i64 0, .int .i64 0], .int .i64 (examI [a, b])] := by unfold hullW; rw [if_neg h0]; rfl
    rw [hR]
    clear hR
    unfold ivV
    generalize examI [a, b] = er at *
    have q1 : (er == 0) = false := by simp [h0]
    have q2 : (er != 0) = true := by simp [h0]
    clear h0
    go_enter Try.func32, Try.ntmps32
    go_wp2_with fail
    refine (HEX.out _ _ (by simp)).mono ?_
    rintro e w1 ⟨he, hb⟩
    subst he
    have F1 := Fm.of3 hb
    have c10 := F1.k0.c0
    have c11 := F1.k0.c1
    have c20 := F1.k1.c0
    have c21 := F1.k1.c1
    obtain ⟨p, q, hr⟩ := F1.res
    have c30 := hr.c0
    have c31 := hr.c1
    have f30 := hr.f0
    have f31 := hr.f1
    clear hb hr
    have FB := Lib.hid F1
    clear F1
    go_wp2_with fail
    refine bodyPost_ret (v := .tuple #[.agg #[.int .i64 0, .int .i64 0], .int .i64 er]) (by simp [results, Try.results32, c30, c31, go_sem]) rfl ⟨rfl, (FB.out.set _ _).bl⟩

set_option maxRecDepth 100000 in
set_option maxHeartbeats 1000000 in
theorem meet_any (a b : Int × Int) (w : World) (ha : I64 a.1 ∧ I64 a.2) (hb : I64 b.1 ∧ I64 b.2) :
    Calls Try.prog 33 #[ivV a, ivV b] w fun e w' => e = .returned (ivE (meetW a b)) ∧ Below w.heap.size w w' := by
  have hex := fun W n hn => exam2_at a b W n hn ha hb
  have HEX := Lib.hid hex
  clear hex ha hb
  have BG := Lib.hid below_g
  by_cases h0 : examI [a, b] = 0
  · rw [h0] at HEX
    obtain ⟨a1, a2⟩ := a
    obtain ⟨b1, b2⟩ := b
    simp only at HEX
    unfold ivV
    simp only
    by_cases h1 : a2 < b1
    · have d1 : decide (a2 < b1) = true := decide_eq_true h1
      have hR : ivE (meetW (a1, a2) (b1, b2)) = .tuple #[.agg #[.int .i64 0, .int .i64 0], .int .i64 4] := by unfold meetW; rw [if_pos h0, if_pos (.inl h1)]; rfl
      rw [hR]
      clear hR h0
      clear h1
      go_enter Try.func33, Try.ntmps33
      go_wp2_with fail
      refine (HEX.out _ _ (by simp)).mono ?_
      rintro e w1 ⟨he, hb⟩
      subst he
      have F1 := Fm.of3 hb
      have c10 := F1.k0.c0
      have c11 := F1.k0.c1
      have c20 := F1.k1.c0
      have c21 := F1.k1.c1
      obtain ⟨p, q, hr⟩ := F1.res
      have c30 := hr.c0
      have c31 := hr.c1
      have f30 := hr.f0
      have f31 := hr.f1
      clear hb hr
      have FB := Lib.hid F1
      clear F1
      go_wp2_with fail
      refine (BG.out a1 a2 b1 b2 _).mono ?_
      rintro e wq ⟨he, hb⟩
      subst he
      have F1 := FB.out.later hb
      clear FB c10 c11 c20 c21 c30 c31 f30 f31 hb
      have c10 := F1.k0.c0
      have c11 := F1.k0.c1
      have c20 := F1.k1.c0
      have c21 := F1.k1.c1
      obtain ⟨p, q, hr⟩ := F1.res
      have c30 := hr.c0
      have c31 := hr.c1
      have f30 := hr.f0
      have f31 := hr.f1
      have FB := Lib.hid F1
      clear F1 hr
      go_wp2_with fail
      refine bodyPost_ret (v := .tuple #[.agg #[.int .i64 0, .int .i64 0], .int .i64 4]) (by simp [results, Try.results33, c30, c31, go_sem]) rfl ⟨rfl, (FB.out.set _ _).bl⟩
    · have d1 : decide (a2 < b1) = false := decide_eq_false h1
      by_cases h2 : b2 < a1
      · have d2 : decide (b2 < a1) = true := decide_eq_true h2
        have hR : ivE (meetW (a1, a2) (b1, b2)) = .tuple #[.agg #[.int .i64 0, .int .i64 0], .int .i64 4] := by unfold meetW; rw [if_pos h0, if_pos (.inr h2)]; rfl
        rw [hR]
        clear hR h0
        clear h1 h2
        go_enter Try.func33, Try.ntmps33
        go_wp2_with fail
        refine (HEX.out _ _ (by simp)).mono ?_
        rintro e w1 ⟨he, hb⟩
        subst he
        have F1 := Fm.of3 hb
        have c10 := F1.k0.c0
        have c11 := F1.k0.c1
        have c20 := F1.k1.c0
        have c21 := F1.k1.c1
        obtain ⟨p, q, hr⟩ := F1.res
        have c30 := hr.c0
        have c31 := hr.c1
        have f30 := hr.f0
        have f31 := hr.f1
        clear hb hr
        have FB := Lib.hid F1
        clear F1
        go_wp2_with fail
        refine (BG.out a1 a2 b1 b2 _).mono ?_
        rintro e wq ⟨he, hb⟩
        subst he
        have F1 := FB.out.later hb
        clear FB c10 c11 c20 c21 c30 c31 f30 f31 hb
        have c10 := F1.k0.c0
        have c11 := F1.k0.c1
        have c20 := F1.k1.c0
        have c21 := F1.k1.c1
        obtain ⟨p, q, hr⟩ := F1.res
        have c30 := hr.c0
        have c31 := hr.c1
        have f30 := hr.f0
        have f31 := hr.f1
        have FB := Lib.hid F1
        clear F1 hr
        go_wp2_with fail
        refine (BG.out b1 b2 a1 a2 _).mono ?_
        rintro e wq ⟨he, hb⟩
        subst he
        have F1 := FB.out.later hb
        clear FB c10 c11 c20 c21 c30 c31 f30 f31 hb
        have c10 := F1.k0.c0
        have c11 := F1.k0.c1
        have c20 := F1.k1.c0
        have c21 := F1.k1.c1
        obtain ⟨p, q, hr⟩ := F1.res
        have c30 := hr.c0
        have c31 := hr.c1
        have f30 := hr.f0
        have f31 := hr.f1
        have FB := Lib.hid F1
        clear F1 hr
        go_wp2_with fail
        refine bodyPost_ret (v := .tuple #[.agg #[.int .i64 0, .int .i64 0], .int .i64 4]) (by simp [results, Try.results33, c30, c31, go_sem]) rfl ⟨rfl, (FB.out.set _ _).bl⟩
      · have d2 : decide (b2 < a1) = false := decide_eq_false h2
        have hR : ivE (meetW (a1, a2) (b1, b2)) = .tuple #[.agg #[.int .i64 (max a1 b1), .int .i64 (min a2 b2)], .int .i64 0] := by unfold meetW; rw [if_pos h0, if_neg (by omega)]; rfl
        rw [hR]
        clear hR h0
        clear h1 h2
        go_enter Try.func33, Try.ntmps33
        go_wp2_with fail
        refine (HEX.out _ _ (by simp)).mono ?_
        rintro e w1 ⟨he, hb⟩
        subst he
        have F1 := Fm.of3 hb
        have c10 := F1.k0.c0
        have c11 := F1.k0.c1
        have c20 := F1.k1.c0
        have c21 := F1.k1.c1
        obtain ⟨p, q, hr⟩ := F1.res
        have c30 := hr.c0
        have c31 := hr.c1
        have f30 := hr.f0
        have f31 := hr.f1
        clear hb hr
        have FB := Lib.hid F1
        clear F1
        go_wp2_with fail
        refine (BG.out a1 a2 b1 b2 _).mono ?_
        rintro e wq ⟨he, hb⟩
        subst he
        have F1 := FB.out.later hb
        clear FB c10 c11 c20 c21 c30 c31 f30 f31 hb
        have c10 := F1.k0.c0
        have c11 := F1.k0.c1
        have c20 := F1.k1.c0
        have c21 := F1.k1.c1
        obtain ⟨p, q, hr⟩ := F1.res
        have c30 := hr.c0
        have c31 := hr.c1
        have f30 := hr.f0
        have f31 := hr.f1
        have FB := Lib.hid F1
        clear F1 hr
        go_wp2_with fail
        refine (BG.out b1 b2 a1 a2 _).mono ?_
        rintro e wq ⟨he, hb⟩
        subst he
        have F1 := FB.out.later hb
        clear FB c10 c11 c20 c21 c30 c31 f30 f31 hb
        have c10 := F1.k0.c0
        have c11 := F1.k0.c1
        have c20 := F1.k1.c0
        have c21 := F1.k1.c1
        obtain ⟨p, q, hr⟩ := F1.res
        have c30 := hr.c0
        have c31 := hr.c1
        have f30 := hr.f0
        have f31 := hr.f1
        have FB := Lib.hid F1
        clear F1 hr
        go_wp2_with fail
        refine bodyPost_ret (v := .tuple #[.agg #[.int .i64 (max a1 b1), .int .i64 (min a2 b2)], .int .i64 0]) (by simp [results, Try.results33, c30, c31, go_sem]) rfl ⟨rfl, (FB.out.set _ _).bl⟩
  · have hR : ivE (meetW a b) = .tuple #[.agg #[.int .i64 0, .int .i64 0], .int .i64 (examI [a, b])] := by unfold meetW; rw [if_neg h0]; rfl
    rw [hR]
    clear hR
    unfold ivV
    generalize examI [a, b] = er at *
    have q1 : (er == 0) = false := by simp [h0]
    have q2 : (er != 0) = true := by simp [h0]
    clear h0
    go_enter Try.func33, Try.ntmps33
    go_wp2_with fail
    refine (HEX.out _ _ (by simp)).mono ?_
    rintro e w1 ⟨he, hb⟩
    subst he
    have F1 := Fm.of3 hb
    have c10 := F1.k0.c0
    have c11 := F1.k0.c1
    have c20 := F1.k1.c0
    have c21 := F1.k1.c1
    obtain ⟨p, q, hr⟩ := F1.res
    have c30 := hr.c0
    have c31 := hr.c1
    have f30 := hr.f0
    have f31 := hr.f1
    clear hb hr
    have FB := Lib.hid F1
    clear F1
    go_wp2_with fail
    refine bodyPost_ret (v := .tuple #[.agg #[.int .i64 0, .int .i64 0], .int .i64 er]) (by simp [results, Try.results33, c30, c31, go_sem]) rfl ⟨rfl, (FB.out.set _ _).bl⟩

set_option maxRecDepth 100000 in
set_option maxHeartbeats 1000000 in
theorem order_any (a b : Int × Int) (w : World) (ha : I64 a.1 ∧ I64 a.2) (hb : I64 b.1 ∧ I64 b.2) :
    Calls Try.prog 35 #[ivV a, ivV b] w fun e w' => e = .returned (ordV (orderW a b)) ∧ Below w.heap.size w w' := by
  have hex := fun W n hn => exam2_at a b W n hn ha hb
  have HEX := Lib.hid hex
  clear hex ha hb
  have BG := Lib.hid below_g
  by_cases h0 : examI [a, b] = 0
  · rw [h0] at HEX
    obtain ⟨a1, a2⟩ := a
    obtain ⟨b1, b2⟩ := b
    simp only at HEX
    unfold ivV
    simp only
    by_cases h1 : a2 < b1
    · have d1 : decide (a2 < b1) = true := decide_eq_true h1
      have hR : ordV (orderW (a1, a2) (b1, b2)) = .tuple #[.int .i64 (-1), .int .i64 0] := by unfold orderW; rw [if_pos h0, if_pos h1]; rfl
      rw [hR]
      clear hR h0
      clear h1
      go_enter Try.func35, Try.ntmps35
      go_wp2_with fail
      refine (HEX.out _ _ (by simp)).mono ?_
      rintro e w1 ⟨he, hb⟩
      subst he
      obtain ⟨k1, k2, hb1⟩ := box2 hb
      have c10 := k1.c0
      have c11 := k1.c1
      have c20 := k2.c0
      have c21 := k2.c1
      have KK1 := Lib.hid k1
      have KK2 := Lib.hid k2
      have FB := Lib.hid hb1
      clear hb hb1 k1 k2
      go_wp2_with fail
      refine (BG.out a1 a2 b1 b2 _).mono ?_
      rintro e wq ⟨he, hb⟩
      subst he
      have k1 := KK1.out.later hb
      have k2 := KK2.out.later hb
      have hb1 := Below.after FB.out hb
      clear FB KK1 KK2 c10 c11 c20 c21 hb
      have c10 := k1.c0
      have c11 := k1.c1
      have c20 := k2.c0
      have c21 := k2.c1
      have KK1 := Lib.hid k1
      have KK2 := Lib.hid k2
      have FB := Lib.hid hb1
      clear k1 k2 hb1
      go_wp2_with fail
      go_ret2
      exact ⟨rfl, FB.out⟩
    · have d1 : decide (a2 < b1) = false := decide_eq_false h1
      by_cases h2 : b2 < a1
      · have d2 : decide (b2 < a1) = true := decide_eq_true h2
        have hR : ordV (orderW (a1, a2) (b1, b2)) = .tuple #[.int .i64 1, .int .i64 0] := by unfold orderW; rw [if_pos h0, if_neg h1, if_pos h2]; rfl
        rw [hR]
        clear hR h0
        clear h1 h2
        go_enter Try.func35, Try.ntmps35
        go_wp2_with fail
        refine (HEX.out _ _ (by simp)).mono ?_
        rintro e w1 ⟨he, hb⟩
        subst he
        obtain ⟨k1, k2, hb1⟩ := box2 hb
        have c10 := k1.c0
        have c11 := k1.c1
        have c20 := k2.c0
        have c21 := k2.c1
        have KK1 := Lib.hid k1
        have KK2 := Lib.hid k2
        have FB := Lib.hid hb1
        clear hb hb1 k1 k2
        go_wp2_with fail
        refine (BG.out a1 a2 b1 b2 _).mono ?_
        rintro e wq ⟨he, hb⟩
        subst he
        have k1 := KK1.out.later hb
        have k2 := KK2.out.later hb
        have hb1 := Below.after FB.out hb
        clear FB KK1 KK2 c10 c11 c20 c21 hb
        have c10 := k1.c0
        have c11 := k1.c1
        have c20 := k2.c0
        have c21 := k2.c1
        have KK1 := Lib.hid k1
        have KK2 := Lib.hid k2
        have FB := Lib.hid hb1
        clear k1 k2 hb1
        go_wp2_with fail
        refine (BG.out b1 b2 a1 a2 _).mono ?_
        rintro e wq ⟨he, hb⟩
        subst he
        have k1 := KK1.out.later hb
        have k2 := KK2.out.later hb
        have hb1 := Below.after FB.out hb
        clear FB KK1 KK2 c10 c11 c20 c21 hb
        have c10 := k1.c0
        have c11 := k1.c1
        have c20 := k2.c0
        have c21 := k2.c1
        have KK1 := Lib.hid k1
        have KK2 := Lib.hid k2
        have FB := Lib.hid hb1
        clear k1 k2 hb1
        go_wp2_with fail
        go_ret2
        exact ⟨rfl, FB.out⟩
      · have d2 : decide (b2 < a1) = false := decide_eq_false h2
        have hR : ordV (orderW (a1, a2) (b1, b2)) = .tuple #[.int .i64 0, .int .i64 0] := by unfold orderW; rw [if_pos h0, if_neg h1, if_neg h2]; rfl
        rw [hR]
        clear hR h0
        clear h1 h2
        go_enter Try.func35, Try.ntmps35
        go_wp2_with fail
        refine (HEX.out _ _ (by simp)).mono ?_
        rintro e w1 ⟨he, hb⟩
        subst he
        obtain ⟨k1, k2, hb1⟩ := box2 hb
        have c10 := k1.c0
        have c11 := k1.c1
        have c20 := k2.c0
        have c21 := k2.c1
        have KK1 := Lib.hid k1
        have KK2 := Lib.hid k2
        have FB := Lib.hid hb1
        clear hb hb1 k1 k2
        go_wp2_with fail
        refine (BG.out a1 a2 b1 b2 _).mono ?_
        rintro e wq ⟨he, hb⟩
        subst he
        have k1 := KK1.out.later hb
        have k2 := KK2.out.later hb
        have hb1 := Below.after FB.out hb
        clear FB KK1 KK2 c10 c11 c20 c21 hb
        have c10 := k1.c0
        have c11 := k1.c1
        have c20 := k2.c0
        have c21 := k2.c1
        have KK1 := Lib.hid k1
        have KK2 := Lib.hid k2
        have FB := Lib.hid hb1
        clear k1 k2 hb1
        go_wp2_with fail
        refine (BG.out b1 b2 a1 a2 _).mono ?_
        rintro e wq ⟨he, hb⟩
        subst he
        have k1 := KK1.out.later hb
        have k2 := KK2.out.later hb
        have hb1 := Below.after FB.out hb
        clear FB KK1 KK2 c10 c11 c20 c21 hb
        have c10 := k1.c0
        have c11 := k1.c1
        have c20 := k2.c0
        have c21 := k2.c1
        have KK1 := Lib.hid k1
        have KK2 := Lib.hid k2
        have FB := Lib.hid hb1
        clear k1 k2 hb1
        go_wp2_with fail
        go_ret2
        exact ⟨rfl, FB.out⟩
  · have hR : ordV (orderW a b) = .tuple #[.int .i64 0, .int .i64 (examI [a, b])] := by unfold orderW; rw [if_neg h0]; rfl
    rw [hR]
    clear hR
    unfold ivV
    generalize examI [a, b] = er at *
    have q1 : (er == 0) = false := by simp [h0]
    have q2 : (er != 0) = true := by simp [h0]
    clear h0
    go_enter Try.func35, Try.ntmps35
    go_wp2_with fail
    refine (HEX.out _ _ (by simp)).mono ?_
    rintro e w1 ⟨he, hb⟩
    subst he
    obtain ⟨k1, k2, hb1⟩ := box2 hb
    have c10 := k1.c0
    have c11 := k1.c1
    have c20 := k2.c0
    have c21 := k2.c1
    have KK1 := Lib.hid k1
    have KK2 := Lib.hid k2
    have FB := Lib.hid hb1
    clear hb hb1 k1 k2
    go_wp2_with fail
    go_ret2
    exact ⟨rfl, FB.out⟩

set_option maxRecDepth 100000 in
set_option maxHeartbeats 1000000 in
theorem rord03_any (a b : Int × Int) (w : World)  :
    Calls Try.prog 36 #[ivV a, ivV b] w fun e w' => e = .returned (ordV (orderW a b)) ∧ Below w.heap.size w w' := by
  have hex := fun W n hn => bad2_at a b W n hn
  have HEX := Lib.hid hex
  clear hex
  have BG := Lib.hid below_g
  by_cases h0 : examI [a, b] = 0
  · rw [h0] at HEX
    obtain ⟨a1, a2⟩ := a
    obtain ⟨b1, b2⟩ := b
    simp only at HEX
    unfold ivV
    simp only
    by_cases h1 : a2 < b1
    · have d1 : decide (a2 < b1) = true := decide_eq_true h1
      have hR : ordV (orderW (a1, a2) (b1, b2)) = .tuple #[.int .i64 (-1), .int .i64 0] := by unfold orderW; rw [if_pos h0, if_pos h1]; rfl
      rw [hR]
      clear hR h0
      clear h1
      go_enter Try.func36, Try.ntmps36
      go_wp2_with fail
      refine (HEX.out _ _ (by simp)).mono ?_
      rintro e w1 ⟨he, hb⟩
      subst he
      obtain ⟨k1, k2, hb1⟩ := box2 hb
      have c10 := k1.c0
      have c11 := k1.c1
      have c20 := k2.c0
      have c21 := k2.c1
      have KK1 := Lib.hid k1
      have KK2 := Lib.hid k2
      have FB := Lib.hid hb1
      clear hb hb1 k1 k2
      go_wp2_with fail
      go_ret2
      exact ⟨rfl, FB.out⟩
    · have d1 : decide (a2 < b1) = false := decide_eq_false h1
      by_cases h2 : b2 < a1
      · have d2 : decide (b2 < a1) = true := decide_eq_true h2
        have hR : ordV (orderW (a1, a2) (b1, b2)) = .tuple #[.int .i64 1, .int .i64 0] := by unfold orderW; rw [if_pos h0, if_neg h1, if_pos h2]; rfl
        rw [hR]
        clear hR h0
        clear h1 h2
        go_enter Try.func36, Try.ntmps36
        go_wp2_with fail
        refine (HEX.out _ _ (by simp)).mono ?_
        rintro e w1 ⟨he, hb⟩
        subst he
        obtain ⟨k1, k2, hb1⟩ := box2 hb
        have c10 := k1.c0
        have c11 := k1.c1
        have c20 := k2.c0
        have c21 := k2.c1
        have KK1 := Lib.hid k1
        have KK2 := Lib.hid k2
        have FB := Lib.hid hb1
        clear hb hb1 k1 k2
        go_wp2_with fail
        go_ret2
        exact ⟨rfl, FB.out⟩
      · have d2 : decide (b2 < a1) = false := decide_eq_false h2
        have hR : ordV (orderW (a1, a2) (b1, b2)) = .tuple #[.int .i64 0, .int .i64 0] := by unfold orderW; rw [if_pos h0, if_neg h1, if_neg h2]; rfl
        rw [hR]
        clear hR h0
        clear h1 h2
        go_enter Try.func36, Try.ntmps36
        go_wp2_with fail
        refine (HEX.out _ _ (by simp)).mono ?_
        rintro e w1 ⟨he, hb⟩
        subst he
        obtain ⟨k1, k2, hb1⟩ := box2 hb
        have c10 := k1.c0
        have c11 := k1.c1
        have c20 := k2.c0
        have c21 := k2.c1
        have KK1 := Lib.hid k1
        have KK2 := Lib.hid k2
        have FB := Lib.hid hb1
        clear hb hb1 k1 k2
        go_wp2_with fail
        go_ret2
        exact ⟨rfl, FB.out⟩
  · have hR : ordV (orderW a b) = .tuple #[.int .i64 0, .int .i64 (examI [a, b])] := by unfold orderW; rw [if_neg h0]; rfl
    rw [hR]
    clear hR
    unfold ivV
    generalize examI [a, b] = er at *
    have q1 : (er == 0) = false := by simp [h0]
    have q2 : (er != 0) = true := by simp [h0]
    clear h0
    go_enter Try.func36, Try.ntmps36
    go_wp2_with fail
    refine (HEX.out _ _ (by simp)).mono ?_
    rintro e w1 ⟨he, hb⟩
    subst he
    obtain ⟨k1, k2, hb1⟩ := box2 hb
    have c10 := k1.c0
    have c11 := k1.c1
    have c20 := k2.c0
    have c21 := k2.c1
    have KK1 := Lib.hid k1
    have KK2 := Lib.hid k2
    have FB := Lib.hid hb1
    clear hb hb1 k1 k2
    go_wp2_with fail
    go_ret2
    exact ⟨rfl, FB.out⟩

set_option maxRecDepth 100000 in
set_option maxHeartbeats 1000000 in
theorem rmeet_any (a b : Int × Int) (w : World)  :
    Calls Try.prog 34 #[ivV a, ivV b] w fun e w' => e = .returned (ivE (meetW a b)) ∧ Below w.heap.size w w' := by
  have hex := fun W n hn => bad2_at a b W n hn
  have HEX := Lib.hid hex
  clear hex
  have BG := Lib.hid below_g
  by_cases h0 : examI [a, b] = 0
  · rw [h0] at HEX
    obtain ⟨a1, a2⟩ := a
    obtain ⟨b1, b2⟩ := b
    simp only at HEX
    unfold ivV
    simp only
    have hv : a1 ≤ a2 ∧ b1 ≤ b2 := ⟨(examI_ok h0 (a1, a2) (by simp)).2.2, (examI_ok h0 (b1, b2) (by simp)).2.2⟩
    by_cases h1 : a2 < b1 ∨ b2 < a1
    · have d1 : decide (min a2 b2 < max a1 b1) = true := decide_eq_true (by omega)
      have hR : ivE (meetW (a1, a2) (b1, b2)) = .tuple #[.agg #[.int .i64 0, .int .i64 0], .int .i64 4] := by unfold meetW; rw [if_pos h0, if_pos h1]; rfl
      rw [hR]
      clear hR h0
      clear h1 hv
      go_enter Try.func34, Try.ntmps34
      go_wp2_with fail
      refine (HEX.out _ _ (by simp)).mono ?_
      rintro e w1 ⟨he, hb⟩
      subst he
      have F1 := Fm.of3 hb
      have c10 := F1.k0.c0
      have c11 := F1.k0.c1
      have c20 := F1.k1.c0
      have c21 := F1.k1.c1
      obtain ⟨p, q, hr⟩ := F1.res
      have c30 := hr.c0
      have c31 := hr.c1
      have f30 := hr.f0
      have f31 := hr.f1
      clear hb hr
      have FB := Lib.hid F1
      clear F1
      have G1 := FB.out.alloc (.cells #[.int .i64 (max a1 b1), .int .i64 (min a2 b2)] 23)
      clear c30 c31 f30 f31
      obtain ⟨p2, q2, hr⟩ := G1.res
      have c30 := hr.c0
      have c31 := hr.c1
      have f30 := hr.f0
      have f31 := hr.f1
      clear hr
      have GB := Lib.hid G1
      clear G1
      go_wp2_with fail
      refine bodyPost_ret (v := .tuple #[.agg #[.int .i64 0, .int .i64 0], .int .i64 4]) (by simp [results, Try.results34, c30, c31, go_sem]) rfl ⟨rfl, (GB.out.set _ _).bl⟩
    · have d1 : decide (min a2 b2 < max a1 b1) = false := decide_eq_false (by omega)
      have hR : ivE (meetW (a1, a2) (b1, b2)) = .tuple #[.agg #[.int .i64 (max a1 b1), .int .i64 (min a2 b2)], .int .i64 0] := by unfold meetW; rw [if_pos h0, if_neg h1]; rfl
      rw [hR]
      clear hR h0
      clear h1 hv
      go_enter Try.func34, Try.ntmps34
      go_wp2_with fail
      refine (HEX.out _ _ (by simp)).mono ?_
      rintro e w1 ⟨he, hb⟩
      subst he
      have F1 := Fm.of3 hb
      have c10 := F1.k0.c0
      have c11 := F1.k0.c1
      have c20 := F1.k1.c0
      have c21 := F1.k1.c1
      obtain ⟨p, q, hr⟩ := F1.res
      have c30 := hr.c0
      have c31 := hr.c1
      have f30 := hr.f0
      have f31 := hr.f1
      clear hb hr
      have FB := Lib.hid F1
      clear F1
      have G1 := FB.out.alloc (.cells #[.int .i64 (max a1 b1), .int .i64 (min a2 b2)] 23)
      clear c30 c31 f30 f31
      obtain ⟨p2, q2, hr⟩ := G1.res
      have c30 := hr.c0
      have c31 := hr.c1
      have f30 := hr.f0
      have f31 := hr.f1
      clear hr
      have GB := Lib.hid G1
      clear G1
      go_wp2_with fail
      refine bodyPost_ret (v := .tuple #[.agg #[.int .i64 (max a1 b1), .int .i64 (min a2 b2)], .int .i64 0]) (by simp [results, Try.results34, c30, c31, go_sem]) rfl ⟨rfl, (GB.out.set _ _).bl⟩
  · have hR : ivE (meetW a b) = .tuple #[.agg #[.int .i64 0, .int .i64 0], .int .i64 (examI [a, b])] := by unfold meetW; rw [if_neg h0]; rfl
    rw [hR]
    clear hR
    unfold ivV
    generalize examI [a, b] = er at *
    have q1 : (er == 0) = false := by simp [h0]
    have q2 : (er != 0) = true := by simp [h0]
    clear h0
    go_enter Try.func34, Try.ntmps34
    go_wp2_with fail
    refine (HEX.out _ _ (by simp)).mono ?_
    rintro e w1 ⟨he, hb⟩
    subst he
    have F1 := Fm.of3 hb
    have c10 := F1.k0.c0
    have c11 := F1.k0.c1
    have c20 := F1.k1.c0
    have c21 := F1.k1.c1
    obtain ⟨p, q, hr⟩ := F1.res
    have c30 := hr.c0
    have c31 := hr.c1
    have f30 := hr.f0
    have f31 := hr.f1
    clear hb hr
    have FB := Lib.hid F1
    clear F1
    go_wp2_with fail
    refine bodyPost_ret (v := .tuple #[.agg #[.int .i64 0, .int .i64 0], .int .i64 er]) (by simp [results, Try.results34, c30, c31, go_sem]) rfl ⟨rfl, (FB.out.set _ _).bl⟩
end Go.Proofs.Ytmmgbofhbnflkaa
