import Derived.Test.YtmmgbofhbnflkaaI9
namespace Go.Proofs.Ytmmgbofhbnflkaa
open Go.RowKit

set_option maxRecDepth 100000 in
set_option maxHeartbeats 1000000 in
theorem scale_any (a : Int × Int) (num den : Int) (w : World) (ha : I64 a.1 ∧ I64 a.2) (hnum : I64 num) (hden : I64 den) :
    Calls Try.prog 21 #[ivV a, .int .i64 num, .int .i64 den] w fun e w' => e = .returned (ivE (scaleE a num den)) ∧ Below w.heap.size w w' := by
  have hex := fun W n hn => exam1_at a W n hn ha
  have hno : ¬ examI [a] = 0 → ivE (scaleE a num den) = .tuple #[.agg #[.int .i64 0, .int .i64 0], .int .i64 (examI [a])] := fun h => by unfold scaleE; rw [if_neg h]; rfl
  have hbad : examI [a] = 0 → (¬ (1 ≤ den ∧ okB den = true ∧ okB num = true)) → ivE (scaleE a num den) = .tuple #[.agg #[.int .i64 0, .int .i64 0], .int .i64 2] := fun h h' => by unfold scaleE; rw [if_pos h]; unfold scaleW; rw [if_neg h']; rfl
  have hyes : examI [a] = 0 → 1 ≤ den → okB den = true → okB num = true → ∃ x y ee, ivE (scaleE a num den) = .tuple #[.agg #[.int .i64 x, .int .i64 y], .int .i64 ee] ∧ ∀ W, Calls Try.prog 47 #[ivV a, .agg #[.int .i64 num, .int .i64 num], .int .i64 den] W fun e' w' => e' = .returned (.tuple #[.agg #[.int .i64 x, .int .i64 y], .int .i64 ee]) ∧ Below W.heap.size W w' := fun h h1 h2 h3 => by
    refine ⟨(scaleE a num den).1.1, (scaleE a num den).1.2, (scaleE a num den).2, rfl, fun W => ?_⟩
    unfold scaleE
    rw [if_pos h]
    unfold scaleW
    rw [if_pos ⟨h1, h2, h3⟩]
    exact productsOver_any a (num, num) den W ha ⟨hnum, hnum⟩ ⟨h1, by have := okB_iff.1 h2; omega⟩
  have ad := fun w => allowed_any den w hden
  have an := fun w => allowed_any num w hnum
  clear ha hnum hden
  have HEX := Lib.hid hex
  clear hex
  obtain ⟨er, her⟩ : ∃ er, er = examI [a] := ⟨_, rfl⟩
  rw [← her] at HEX hno hbad hyes
  clear her
  generalize ivE (scaleE a num den) = R at *
  unfold ivV at *
  obtain ⟨kd, hkd⟩ : ∃ k, k = okB den := ⟨_, rfl⟩
  obtain ⟨kn, hkn⟩ : ∃ k, k = okB num := ⟨_, rfl⟩
  rw [← hkd] at hbad hyes ad
  rw [← hkn] at hbad hyes an
  clear hkd hkn
  have HD := Lib.hid ad
  have HN := Lib.hid an
  clear ad an
  by_cases h0 : er = 0
  · subst h0
    by_cases h1 : 1 ≤ den
    · have t1 : decide (den < 1) = false := decide_eq_false (by omega)
      cases kd
      · obtain rfl := hbad rfl (by simp)
        clear hno hbad hyes h1
        go_enter Try.func21, Try.ntmps21
        go_wp2_with fail
        refine (HEX.out _ _ (by simp)).mono ?_
        rintro e w1 ⟨he, hb⟩
        subst he
        have F1 := Fm.of2 hb
        have c10 := F1.k0.c0
        have c11 := F1.k0.c1
        obtain ⟨p, q, hr⟩ := F1.res
        have c30 := hr.c0
        have c31 := hr.c1
        have f30 := hr.f0
        have f31 := hr.f1
        clear hb hr
        have FB := Lib.hid F1
        clear F1
        go_wp2_with fail
        refine (HD.out _).mono ?_
        rintro e wq ⟨he, hq⟩
        subst he hq
        go_wp2_with fail
        refine bodyPost_ret (v := .tuple #[.agg #[.int .i64 0, .int .i64 0], .int .i64 2]) (by simp [results, Try.results21, c30, c31, go_sem]) rfl ⟨rfl, (FB.out.set _ _).bl⟩
      · cases kn
        · obtain rfl := hbad rfl (by simp)
          clear hno hbad hyes h1
          go_enter Try.func21, Try.ntmps21
          go_wp2_with fail
          refine (HEX.out _ _ (by simp)).mono ?_
          rintro e w1 ⟨he, hb⟩
          subst he
          have F1 := Fm.of2 hb
          have c10 := F1.k0.c0
          have c11 := F1.k0.c1
          obtain ⟨p, q, hr⟩ := F1.res
          have c30 := hr.c0
          have c31 := hr.c1
          have f30 := hr.f0
          have f31 := hr.f1
          clear hb hr
          have FB := Lib.hid F1
          clear F1
          go_wp2_with fail
          refine (HD.out _).mono ?_
          rintro e wq ⟨he, hq⟩
          subst he hq
          go_wp2_with fail
          refine (HN.out _).mono ?_
          rintro e wq ⟨he, hq⟩
          subst he hq
          go_wp2_with fail
          refine bodyPost_ret (v := .tuple #[.agg #[.int .i64 0, .int .i64 0], .int .i64 2]) (by simp [results, Try.results21, c30, c31, go_sem]) rfl ⟨rfl, (FB.out.set _ _).bl⟩
        · obtain ⟨x, y, ee, rfl, hs⟩ := hyes rfl h1 rfl rfl
          have HS := Lib.hid hs
          clear hno hbad hyes hs h1
          go_enter Try.func21, Try.ntmps21
          go_wp2_with fail
          refine (HEX.out _ _ (by simp)).mono ?_
          rintro e w1 ⟨he, hb⟩
          subst he
          have F1 := Fm.of2 hb
          have c10 := F1.k0.c0
          have c11 := F1.k0.c1
          obtain ⟨p, q, hr⟩ := F1.res
          have c30 := hr.c0
          have c31 := hr.c1
          have f30 := hr.f0
          have f31 := hr.f1
          clear hb hr
          have FB := Lib.hid F1
          clear F1
          go_wp2_with fail
          refine (HD.out _).mono ?_
          rintro e wq ⟨he, hq⟩
          subst he hq
          go_wp2_with fail
          refine (HN.out _).mono ?_
          rintro e wq ⟨he, hq⟩
          subst he hq
          go_wp2_with fail
          refine (HS.out _).mono ?_
          rintro e w2 ⟨he, hb⟩
          subst he
          have F2 := FB.out.later hb
          clear c30 c31 f30 f31 FB
          obtain ⟨p2, q2, hr⟩ := F2.res
          have c30 := hr.c0
          have c31 := hr.c1
          have f30 := hr.f0
          have f31 := hr.f1
          have FB := Lib.hid F2
          clear hb F2 hr
          go_wp2_with fail
          refine bodyPost_ret (v := .tuple #[.agg #[.int .i64 x, .int .i64 y], .int .i64 ee]) (by simp [results, Try.results21, c30, c31, go_sem]) rfl ⟨rfl, (FB.out.set _ _).bl⟩
    · have t1 : decide (den < 1) = true := decide_eq_true (by omega)
      obtain rfl := hbad rfl (by omega)
      clear hno hbad hyes h1
      go_enter Try.func21, Try.ntmps21
      go_wp2_with fail
      refine (HEX.out _ _ (by simp)).mono ?_
      rintro e w1 ⟨he, hb⟩
      subst he
      have F1 := Fm.of2 hb
      have c10 := F1.k0.c0
      have c11 := F1.k0.c1
      obtain ⟨p, q, hr⟩ := F1.res
      have c30 := hr.c0
      have c31 := hr.c1
      have f30 := hr.f0
      have f31 := hr.f1
      clear hb hr
      have FB := Lib.hid F1
      clear F1
      go_wp2_with fail
      refine bodyPost_ret (v := .tuple #[.agg #[.int .i64 0, .int .i64 0], .int .i64 2]) (by simp [results, Try.results21, c30, c31, go_sem]) rfl ⟨rfl, (FB.out.set _ _).bl⟩
  · have q1 : (er == 0) = false := by simp [h0]
    have q2 : (er != 0) = true := by simp [h0]
    obtain rfl := hno h0
    clear hno hyes hbad h0
    go_enter Try.func21, Try.ntmps21
    go_wp2_with fail
    refine (HEX.out _ _ (by simp)).mono ?_
    rintro e w1 ⟨he, hb⟩
    subst he
    have F1 := Fm.of2 hb
    obtain ⟨p, q, hr⟩ := F1.res
    have c30 := hr.c0
    have c31 := hr.c1
    have f30 := hr.f0
    have f31 := hr.f1
    have FB := Lib.hid F1
    clear hb F1 hr
    go_wp2_with fail
    refine bodyPost_ret (v := .tuple #[.agg #[.int .i64 0, .int .i64 0], .int .i64 er]) (by simp [results, Try.results21, c30, c31, go_sem]) rfl ⟨rfl, (FB.out.set _ _).bl⟩

set_option maxRecDepth 100000 in
set_option maxHeartbeats 1000000 in
theorem disc_any (a : Int × Int) (w : World) (ha : I64 a.1 ∧ I64 a.2) :
    Calls Try.prog 29 #[ivV a] w fun e w' => e = .returned (ivE (discE a)) ∧ Below w.heap.size w w' := by
  have hex := fun W n hn => exam1_at a W n hn ha
  have hno : ¬ examI [a] = 0 → ivE (discE a) = .tuple #[.agg #[.int .i64 0, .int .i64 0], .int .i64 (examI [a])] := fun h => by unfold discE; rw [if_neg h]; rfl
  have hbad : examI [a] = 0 → a.1 < 0 → ivE (discE a) = .tuple #[.agg #[.int .i64 0, .int .i64 0], .int .i64 9] := fun h h' => by unfold discE; rw [if_pos h]; unfold discW; rw [if_pos h']; rfl
  have hbig : examI [a] = 0 → ¬ a.1 < 0 → 3000000000 < a.2 → ivE (discE a) = .tuple #[.agg #[.int .i64 0, .int .i64 0], .int .i64 7] := fun h h' h2 => by unfold discE; rw [if_pos h]; unfold discW; rw [if_neg h', if_pos h2]; rfl
  have hyes : examI [a] = 0 → ¬ a.1 < 0 → ¬ 3000000000 < a.2 → ∃ s1 s2 x y ee, ivE (discE a) = .tuple #[.agg #[.int .i64 x, .int .i64 y], .int .i64 ee] ∧ a.1 * a.1 = s1 ∧ a.2 * a.2 = s2 ∧ 0 ≤ s1 ∧ s1 ≤ 9000000000000000000 ∧ 0 ≤ s2 ∧ s2 ≤ 9000000000000000000 ∧ ∀ W, Calls Try.prog 47 #[.agg #[.int .i64 s1, .int .i64 s2], .agg #[.int .i64 3141592653589793238, .int .i64 3141592653589793239], .int .i64 4000000000000000000] W fun e' w' => e' = .returned (.tuple #[.agg #[.int .i64 x, .int .i64 y], .int .i64 ee]) ∧ Below W.heap.size W w' := fun h h1 h2 => by
    have he := (examI_ok h a (by simp)).2.2
    have sq : ∀ x : Int, 0 ≤ x → x ≤ 3000000000 → 0 ≤ x * x ∧ x * x ≤ 9000000000000000000 := fun x e1 e2 => by
      have e3 := Int.mul_le_mul e2 e2 e1 (by omega)
      have e4 := Int.mul_nonneg e1 e1
      omega
    obtain ⟨p1, p2⟩ := sq a.1 (by omega) (by omega)
    obtain ⟨p3, p4⟩ := sq a.2 (by omega) (by omega)
    refine ⟨_, _, (discE a).1.1, (discE a).1.2, (discE a).2, rfl, rfl, rfl, p1, p2, p3, p4, fun W => ?_⟩
    unfold discE
    rw [if_pos h]
    unfold discW
    rw [if_neg h1, if_neg h2]
    exact productsOver_any (a.1 * a.1, a.2 * a.2) piL 4000000000000000000 W (by unfold I64; simp only; omega) (by unfold I64 piL; decide) (by omega)
  clear ha
  have HEX := Lib.hid hex
  clear hex
  obtain ⟨er, her⟩ : ∃ er, er = examI [a] := ⟨_, rfl⟩
  rw [← her] at HEX hno hbad hbig hyes
  clear her
  generalize ivE (discE a) = R at *
  unfold ivV at *
  by_cases h0 : er = 0
  · subst h0
    by_cases h1 : a.1 < 0
    · obtain rfl := hbad rfl h1
      have t1 : decide (a.1 < 0) = true := decide_eq_true h1
      clear hno hbad hbig hyes h1
      go_enter Try.func29, Try.ntmps29
      go_wp2_with fail
      refine (HEX.out _ _ (by simp)).mono ?_
      rintro e w1 ⟨he, hb⟩
      subst he
      have F1 := Fm.of2 hb
      have c10 := F1.k0.c0
      have c11 := F1.k0.c1
      obtain ⟨p, q, hr⟩ := F1.res
      have c30 := hr.c0
      have c31 := hr.c1
      have f30 := hr.f0
      have f31 := hr.f1
      clear hb hr
      have FB := Lib.hid F1
      clear F1
      go_wp2_with fail
      refine bodyPost_ret (v := .tuple #[.agg #[.int .i64 0, .int .i64 0], .int .i64 9]) (by simp [results, Try.results29, c30, c31, go_sem]) rfl ⟨rfl, (FB.out.set _ _).bl⟩
    · have t1 : decide (a.1 < 0) = false := decide_eq_false h1
      by_cases h2 : 3000000000 < a.2
      · obtain rfl := hbig rfl h1 h2
        have t2 : decide (3000000000 < a.2) = true := decide_eq_true h2
        clear hno hbad hbig hyes h1 h2
        go_enter Try.func29, Try.ntmps29
        go_wp2_with fail
        refine (HEX.out _ _ (by simp)).mono ?_
        rintro e w1 ⟨he, hb⟩
        subst he
        have F1 := Fm.of2 hb
        have c10 := F1.k0.c0
        have c11 := F1.k0.c1
        obtain ⟨p, q, hr⟩ := F1.res
        have c30 := hr.c0
        have c31 := hr.c1
        have f30 := hr.f0
        have f31 := hr.f1
        clear hb hr
        have FB := Lib.hid F1
        clear F1
        go_wp2_with fail
        refine bodyPost_ret (v := .tuple #[.agg #[.int .i64 0, .int .i64 0], .int .i64 7]) (by simp [results, Try.results29, c30, c31, go_sem]) rfl ⟨rfl, (FB.out.set _ _).bl⟩
      · obtain ⟨s1, s2, x, y, ee, rfl, e1, e2, b1, b2, b3, b4, hs⟩ := hyes rfl h1 h2
        have t2 : decide (3000000000 < a.2) = false := decide_eq_false h2
        have HS := Lib.hid hs
        clear hno hbad hbig hyes hs h1 h2
        go_enter Try.func29, Try.ntmps29
        go_wp2_with fail
        refine (HEX.out _ _ (by simp)).mono ?_
        rintro e w1 ⟨he, hb⟩
        subst he
        have F1 := Fm.of2 hb
        have c10 := F1.k0.c0
        have c11 := F1.k0.c1
        obtain ⟨p, q, hr⟩ := F1.res
        have c30 := hr.c0
        have c31 := hr.c1
        have f30 := hr.f0
        have f31 := hr.f1
        clear hb hr
        have FB := Lib.hid F1
        clear F1
        go_wp2_with fail
        refine (HS.out _).mono ?_
        rintro e w2 ⟨he, hb⟩
        subst he
        have F2 := (FB.out.alloc _).later hb
        clear c30 c31 f30 f31 FB
        obtain ⟨p2, q2, hr⟩ := F2.res
        have c30 := hr.c0
        have c31 := hr.c1
        have f30 := hr.f0
        have f31 := hr.f1
        have FB := Lib.hid F2
        clear hb F2 hr
        go_wp2_with fail
        refine bodyPost_ret (v := .tuple #[.agg #[.int .i64 x, .int .i64 y], .int .i64 ee]) (by simp [results, Try.results29, c30, c31, go_sem]) rfl ⟨rfl, (FB.out.set _ _).bl⟩
  · have q1 : (er == 0) = false := by simp [h0]
    have q2 : (er != 0) = true := by simp [h0]
    obtain rfl := hno h0
    clear hno hyes hbad hbig h0
    go_enter Try.func29, Try.ntmps29
    go_wp2_with fail
    refine (HEX.out _ _ (by simp)).mono ?_
    rintro e w1 ⟨he, hb⟩
    subst he
    have F1 := Fm.of2 hb
    obtain ⟨p, q, hr⟩ := F1.res
    have c30 := hr.c0
    have c31 := hr.c1
    have f30 := hr.f0
    have f31 := hr.f1
    have FB := Lib.hid F1
    clear hb F1 hr
    go_wp2_with fail
    refine bodyPost_ret (v := .tuple #[.agg #[.int .i64 0, .int .i64 0], .int .i64 er]) (by simp [results, Try.results29, c30, c31, go_sem]) rfl ⟨rfl, (FB.out.set _ _).bl⟩
end Go.Proofs.Ytmmgbofhbnflkaa
