import Derived.Test.YtmmgbofhbnflkaaI10
import Derived.Test.YtmmgbofhbnflkaaI11
namespace Go.Proofs.Ytmmgbofhbnflkaa
open Go.RowKit

def powE (a : Int × Int) (k : Int) : (Int × Int) × Int := if examI [a] = 0 then powW a k else ((0, 0), examI [a])
theorem Fm.turn1 {w w' : World} {g r : Nat} {x y : Value} (h : Fm w [(g, x, y)] r w') (hg : w.heap.size ≤ g) (p q : Value) : Fm w [(g, p, q)] r ((w'.setCell ⟨g, 0, none⟩ p).setCell ⟨g, 1, none⟩ q) := by
  have n1 : g ≠ r := h.ne (g, x, y) List.mem_cons_self
  obtain ⟨p', q', hr⟩ := h.res
  refine ⟨?_, ?_, ⟨p', q', (hr.setOther (Ne.symm n1) 0 p).setOther (Ne.symm n1) 1 q⟩, Below.set2 h.bl g hg p q, h.hr⟩
  · intro v hv
    simp at hv
    subst hv
    exact h.k0.set p q
  · intro v hv
    simp at hv
    subst hv
    exact n1
/-- What stands behind the choice of the interval: both powers. -/
theorem powE_cases (a : Int × Int) (k : Nat) (h : examI [a] = 0) (hk : k ≤ 62) (s : Int × Int) (hs : s = if k % 2 = 0 then sizesI a else a) :
    (okB (s.1 ^ k) = false ∨ okB (s.2 ^ k) = false → ivE (powE a k) = .tuple #[.agg #[.int .i64 0, .int .i64 0], .int .i64 7]) ∧
    (okB (s.1 ^ k) = true → okB (s.2 ^ k) = true → ivE (powE a k) = .tuple #[.agg #[.int .i64 (s.1 ^ k), .int .i64 (s.2 ^ k)], .int .i64 0]) := by
  have e : powE a k = spanW (s.1 ^ k) (s.2 ^ k) := by
    unfold powE
    rw [if_pos h]
    unfold powW
    rw [if_neg (by omega), hs]
    by_cases hp : k % 2 = 0
    · rw [if_pos hp, if_pos (by omega)]; rfl
    · rw [if_neg hp, if_neg (by omega)]; rfl
  rw [e]
  constructor
  · intro h
    unfold spanW
    rcases h with h | h <;> rw [h]
    · rfl
    · rw [Bool.and_false]; rfl
  · intro h h'
    rw [spanW_ok h h']; rfl
theorem sizes_ok {a : Int × Int} (h1 : okB a.1 = true) (h2 : okB a.2 = true) : okB (sizesI a).1 = true ∧ okB (sizesI a).2 = true := by
  rw [okB_iff] at *
  unfold sizesI negI
  rw [okB_iff]
  repeat' split
  all_goals first | omega | (simp only; omega)

set_option maxRecDepth 100000 in
set_option maxHeartbeats 2000000 in
theorem pow_any (a : Int × Int) (k : Int) (w : World) (ha : I64 a.1 ∧ I64 a.2) (hk : I64 k) :
    Calls Try.prog 23 #[ivV a, .int .i64 k] w fun e w' => e = .returned (ivE (powE a k)) ∧ Below w.heap.size w w' := by
  have hex := fun W n hn => exam1_at a W n hn ha
  have HEX := Lib.hid hex
  clear hex ha
  by_cases h0 : examI [a] = 0
  · have h1 := examI_ok h0 a (by simp)
    rw [h0] at HEX
    by_cases hk0 : k < 0
    · have hR : ivE (powE a k) = .tuple #[.agg #[.int .i64 0, .int .i64 0], .int .i64 2] := by unfold powE; rw [if_pos h0]; unfold powW; rw [if_pos (.inl hk0)]; rfl
      rw [hR]
      have t1 : decide (k < 0) = true := decide_eq_true hk0
      clear hR h1 hk0 h0 hk
      unfold ivV
      go_enter Try.func23, Try.ntmps23
      go_wp2_with fail
      refine (HEX.out _ _ (by simp)).mono ?_
      rintro e w1 ⟨he, hb⟩
      subst he
      have F1 := Fm.of2 hb
      have c10 := F1.k0.c0
      have c11 := F1.k0.c1
      obtain ⟨p, q, hr⟩ := F1.res
      have c30 := hr.c0
      have c31 := hr.c1
      have f30 := hr.f0
      have f31 := hr.f1
      clear hb hr
      have FB := Lib.hid F1
      clear F1
      go_wp2_with fail
      refine bodyPost_ret (v := .tuple #[.agg #[.int .i64 0, .int .i64 0], .int .i64 2]) (by simp [results, Try.results23, c30, c31, go_sem]) rfl ⟨rfl, (FB.out.set _ _).bl⟩
    · have t1 : decide (k < 0) = false := decide_eq_false hk0
      by_cases hk6 : 62 < k
      · have hR : ivE (powE a k) = .tuple #[.agg #[.int .i64 0, .int .i64 0], .int .i64 2] := by unfold powE; rw [if_pos h0]; unfold powW; rw [if_pos (.inr hk6)]; rfl
        rw [hR]
        have t2 : decide (62 < k) = true := decide_eq_true hk6
        clear hR h1 hk0 h0 hk
        unfold ivV
        go_enter Try.func23, Try.ntmps23
        go_wp2_with fail
        refine (HEX.out _ _ (by simp)).mono ?_
        rintro e w1 ⟨he, hb⟩
        subst he
        have F1 := Fm.of2 hb
        have c10 := F1.k0.c0
        have c11 := F1.k0.c1
        obtain ⟨p, q, hr⟩ := F1.res
        have c30 := hr.c0
        have c31 := hr.c1
        have f30 := hr.f0
        have f31 := hr.f1
        clear hb hr
        have FB := Lib.hid F1
        clear F1
        go_wp2_with fail
        refine bodyPost_ret (v := .tuple #[.agg #[.int .i64 0, .int .i64 0], .int .i64 2]) (by simp [results, Try.results23, c30, c31, go_sem]) rfl ⟨rfl, (FB.out.set _ _).bl⟩
      · have t2 : decide (62 < k) = false := decide_eq_false hk6
        obtain ⟨k, rfl⟩ := Int.eq_ofNat_of_zero_le (show 0 ≤ k by omega)
        obtain ⟨hc1, hc2⟩ := powE_cases a k h0 (by omega) _ rfl
        generalize ivE (powE a k) = R at *
        clear h0 hk
        obtain ⟨x, y⟩ := a
        simp only at h1 HEX
        by_cases hp : k % 2 = 0
        · simp only [if_pos hp] at hc1 hc2
          have hz := fun w => sizes_any (x, y) w h1.1 h1.2.1
          obtain ⟨hs1, hs2⟩ := sizes_ok (a := (x, y)) h1.1 h1.2.1
          unfold ivV at hz ⊢
          generalize (sizesI (x, y)).1 = s1 at *
          generalize (sizesI (x, y)).2 = s2 at *
          have HZ := Lib.hid hz
          have t3 : (((k : Nat) : Int) % 2 == 0) = true := by simp; omega
          clear hz h1
          have hp1 := fun w => power_any s1 k w (okI hs1) (by omega)
          have hp2 := fun w => power_any s2 k w (okI hs2) (by omega)
          have hyes' : okB (s1 ^ k) = true → okB (s2 ^ k) = true → R = .tuple #[.agg #[.int .i64 (if okB (s1 ^ k) then s1 ^ k else 0), .int .i64 (if okB (s2 ^ k) then s2 ^ k else 0)], .int .i64 0] := fun h h' => by
            rw [hc2 h h', h, h']; rfl
          generalize (if okB (s1 ^ k) then s1 ^ k else 0) = n1 at *
          generalize (if okB (s2 ^ k) then s2 ^ k else 0) = n2 at *
          obtain ⟨k1, hk1⟩ : ∃ b, b = okB (s1 ^ k) := ⟨_, rfl⟩
          obtain ⟨k2, hk2⟩ : ∃ b, b = okB (s2 ^ k) := ⟨_, rfl⟩
          rw [← hk1] at hp1 hc1 hyes'
          rw [← hk2] at hp2 hc1 hyes'
          have HP1 := Lib.hid hp1
          have HP2 := Lib.hid hp2
          have HNO := Lib.hid hc1
          have HYES := Lib.hid hyes'
          clear hp1 hp2 hc1 hc2 hyes' hk1 hk2 hs1 hs2
          have hk7 : k ≤ 62 := by omega
          clear hk0 hk6 hp
          go_enter Try.func23, Try.ntmps23
          go_wp2_with fail
          refine (HEX.out _ _ (by simp)).mono ?_
          rintro e w1 ⟨he, hb⟩
          subst he
          have F1 := Fm.of2 hb
          have c10 := F1.k0.c0
          have c11 := F1.k0.c1
          obtain ⟨p, q, hr⟩ := F1.res
          have c30 := hr.c0
          have c31 := hr.c1
          have f30 := hr.f0
          have f31 := hr.f1
          clear hb hr
          have FB := Lib.hid F1
          clear F1
          go_wp2_with fail
          refine (HZ.out _).mono ?_
          rintro e u0 ⟨he, hb⟩
          subst he
          have G0 := FB.out.later hb
          clear FB c10 c11 c30 c31 f30 f31 hb
          have k0 := G0.k0.c0
          have k1' := G0.k0.c1
          have f0 := G0.k0.f0
          have f1 := G0.k0.f1
          have G1 := G0.turn1 (Nat.le_refl _) (.int .i64 s1) (.int .i64 s2)
          have c10 := G1.k0.c0
          have c11 := G1.k0.c1
          obtain ⟨p, q, hr⟩ := G1.res
          have c30 := hr.c0
          have c31 := hr.c1
          have f30 := hr.f0
          have f31 := hr.f1
          have FB := Lib.hid G1
          clear G0 G1 hr
          go_wp2_with fail
          clear k0 k1' f0 f1
          generalize ((u0.setCell ⟨w.heap.size, 0, none⟩ (.int .i64 s1)).setCell ⟨w.heap.size, 1, none⟩ (.int .i64 s2)) = w7 at *
          refine (HP1.out _).mono ?_
          rintro e u1 ⟨he, hb⟩
          subst he
          have G1 := FB.out.later hb
          clear FB c10 c11 c30 c31 f30 f31 hb
          have c10 := G1.k0.c0
          have c11 := G1.k0.c1
          have FB := Lib.hid G1
          clear G1
          go_wp2_with fail
          refine (HP2.out _).mono ?_
          rintro e u2 ⟨he, hb⟩
          subst he
          have G1 := FB.out.later hb
          clear FB c10 c11 hb
          obtain ⟨p, q, hr⟩ := G1.res
          have c30 := hr.c0
          have c31 := hr.c1
          have f30 := hr.f0
          have f31 := hr.f1
          have FB := Lib.hid G1
          clear G1 hr
          cases k1
          · have hR := HNO.out (.inl rfl)
            clear HNO HYES
            subst hR
            go_wp2_with fail
            refine bodyPost_ret (v := .tuple #[.agg #[.int .i64 0, .int .i64 0], .int .i64 7]) (by simp [results, Try.results23, c30, c31, go_sem]) rfl ⟨rfl, (FB.out.set _ _).bl⟩
          · cases k2
            · have hR := HNO.out (.inr rfl)
              clear HNO HYES
              subst hR
              go_wp2_with fail
              refine bodyPost_ret (v := .tuple #[.agg #[.int .i64 0, .int .i64 0], .int .i64 7]) (by simp [results, Try.results23, c30, c31, go_sem]) rfl ⟨rfl, (FB.out.set _ _).bl⟩
            · have hR := HYES.out rfl rfl
              clear HNO HYES
              subst hR
              go_wp2_with fail
              refine bodyPost_ret (v := .tuple #[.agg #[.int .i64 n1, .int .i64 n2], .int .i64 0]) (by simp [results, Try.results23, c30, c31, go_sem]) rfl ⟨rfl, (FB.out.set _ _).bl⟩
        · simp only [if_neg hp] at hc1 hc2
          have hs1 := h1.1
          have hs2 := h1.2.1
          have t3 : (((k : Nat) : Int) % 2 == 0) = false := by simp; omega
          clear h1
          unfold ivV
          simp only
          have hp1 := fun w => power_any x k w (okI hs1) (by omega)
          have hp2 := fun w => power_any y k w (okI hs2) (by omega)
          have hyes' : okB (x ^ k) = true → okB (y ^ k) = true → R = .tuple #[.agg #[.int .i64 (if okB (x ^ k) then x ^ k else 0), .int .i64 (if okB (y ^ k) then y ^ k else 0)], .int .i64 0] := fun h h' => by
            rw [hc2 h h', h, h']; rfl
          generalize (if okB (x ^ k) then x ^ k else 0) = n1 at *
          generalize (if okB (y ^ k) then y ^ k else 0) = n2 at *
          obtain ⟨k1, hk1⟩ : ∃ b, b = okB (x ^ k) := ⟨_, rfl⟩
          obtain ⟨k2, hk2⟩ : ∃ b, b = okB (y ^ k) := ⟨_, rfl⟩
          rw [← hk1] at hp1 hc1 hyes'
          rw [← hk2] at hp2 hc1 hyes'
          have HP1 := Lib.hid hp1
          have HP2 := Lib.hid hp2
          have HNO := Lib.hid hc1
          have HYES := Lib.hid hyes'
          clear hp1 hp2 hc1 hc2 hyes' hk1 hk2 hs1 hs2
          have hk7 : k ≤ 62 := by omega
          clear hk0 hk6 hp
          go_enter Try.func23, Try.ntmps23
          go_wp2_with fail
          refine (HEX.out _ _ (by simp)).mono ?_
          rintro e w1 ⟨he, hb⟩
          subst he
          have F1 := Fm.of2 hb
          have c10 := F1.k0.c0
          have c11 := F1.k0.c1
          obtain ⟨p, q, hr⟩ := F1.res
          have c30 := hr.c0
          have c31 := hr.c1
          have f30 := hr.f0
          have f31 := hr.f1
          clear hb hr
          have FB := Lib.hid F1
          clear F1
          go_wp2_with fail
          refine (HP1.out _).mono ?_
          rintro e u1 ⟨he, hb⟩
          subst he
          have G1 := FB.out.later hb
          clear FB c10 c11 c30 c31 f30 f31 hb
          have c10 := G1.k0.c0
          have c11 := G1.k0.c1
          have FB := Lib.hid G1
          clear G1
          go_wp2_with fail
          refine (HP2.out _).mono ?_
          rintro e u2 ⟨he, hb⟩
          subst he
          have G1 := FB.out.later hb
          clear FB c10 c11 hb
          obtain ⟨p, q, hr⟩ := G1.res
          have c30 := hr.c0
          have c31 := hr.c1
          have f30 := hr.f0
          have f31 := hr.f1
          have FB := Lib.hid G1
          clear G1 hr
          cases k1
          · have hR := HNO.out (.inl rfl)
            clear HNO HYES
            subst hR
            go_wp2_with fail
            refine bodyPost_ret (v := .tuple #[.agg #[.int .i64 0, .int .i64 0], .int .i64 7]) (by simp [results, Try.results23, c30, c31, go_sem]) rfl ⟨rfl, (FB.out.set _ _).bl⟩
          · cases k2
            · have hR := HNO.out (.inr rfl)
              clear HNO HYES
              subst hR
              go_wp2_with fail
              refine bodyPost_ret (v := .tuple #[.agg #[.int .i64 0, .int .i64 0], .int .i64 7]) (by simp [results, Try.results23, c30, c31, go_sem]) rfl ⟨rfl, (FB.out.set _ _).bl⟩
            · have hR := HYES.out rfl rfl
              clear HNO HYES
              subst hR
              go_wp2_with fail
              refine bodyPost_ret (v := .tuple #[.agg #[.int .i64 n1, .int .i64 n2], .int .i64 0]) (by simp [results, Try.results23, c30, c31, go_sem]) rfl ⟨rfl, (FB.out.set _ _).bl⟩
  · have hR : ivE (powE a k) = .tuple #[.agg #[.int .i64 0, .int .i64 0], .int .i64 (examI [a])] := by unfold powE; rw [if_neg h0]; rfl
    rw [hR]
    clear hR hk
    unfold ivV
    generalize examI [a] = er at *
    have q1 : (er == 0) = false := by simp [h0]
    have q2 : (er != 0) = true := by simp [h0]
    clear h0
    go_enter Try.func23, Try.ntmps23
    go_wp2_with fail
    refine (HEX.out _ _ (by simp)).mono ?_
    rintro e w1 ⟨he, hb⟩
    subst he
    have F1 := Fm.of2 hb
    have c10 := F1.k0.c0
    have c11 := F1.k0.c1
    obtain ⟨p, q, hr⟩ := F1.res
    have c30 := hr.c0
    have c31 := hr.c1
    have f30 := hr.f0
    have f31 := hr.f1
    clear hb hr
    have FB := Lib.hid F1
    clear F1
    go_wp2_with fail
    refine bodyPost_ret (v := .tuple #[.agg #[.int .i64 0, .int .i64 0], .int .i64 er]) (by simp [results, Try.results23, c30, c31, go_sem]) rfl ⟨rfl, (FB.out.set _ _).bl⟩

/-- What Root returns: the root of the lower bound, and the least number whose power is at least the upper one. -/
def RootAt (a : Int × Int) (k : Nat) (r : (Int × Int) × Int) : Prop := ∃ lo hi, IsRoot a.1 lo k ∧ IsRoot a.2 hi k ∧ r = ((lo, if hi ^ k < a.2 then hi + 1 else hi), 0)
set_option maxRecDepth 100000 in
set_option maxHeartbeats 2000000 in
theorem root_fn_any (a : Int × Int) (k : Int) (w : World) (ha : I64 a.1 ∧ I64 a.2) (hk : I64 k) :
    Calls Try.prog 25 #[ivV a, .int .i64 k] w fun e w' => ∃ r, e = .returned (ivE r) ∧ Below w.heap.size w w' ∧
      (¬ examI [a] = 0 → r = ((0, 0), examI [a])) ∧ (examI [a] = 0 → (k < 1 ∨ 62 < k) → r = ((0, 0), 2)) ∧ (examI [a] = 0 → 1 ≤ k → k ≤ 62 → a.1 < 0 → r = ((0, 0), 9)) ∧ (examI [a] = 0 → 1 ≤ k → k ≤ 62 → 0 ≤ a.1 → RootAt a k.toNat r) := by
  have hex := fun W n hn => exam1_at a W n hn ha
  have HEX := Lib.hid hex
  clear hex ha
  by_cases h0 : examI [a] = 0
  · have h1 := examI_ok h0 a (by simp)
    rw [h0] at HEX
    by_cases hk0 : k < 1
    · refine Calls.mono (R := fun e w' => e = .returned (ivE ((0, 0), 2)) ∧ Below w.heap.size w w') ?_ (fun e w' h => ⟨_, h.1, h.2, fun h => absurd h0 h, fun _ _ => rfl, fun _ h => by omega, fun _ h => by omega⟩)
      have t1 : decide (k < 1) = true := decide_eq_true hk0
      clear h1 hk0 h0 hk
      show Calls _ _ _ w fun e w' => e = .returned (.tuple #[.agg #[.int .i64 0, .int .i64 0], .int .i64 2]) ∧ _
      unfold ivV
      go_enter Try.func25, Try.ntmps25
      go_wp2_with fail
      refine (HEX.out _ _ (by simp)).mono ?_
      rintro e w1 ⟨he, hb⟩
      subst he
      have F1 := Fm.of2 hb
      have c10 := F1.k0.c0
      have c11 := F1.k0.c1
      obtain ⟨p, q, hr⟩ := F1.res
      have c30 := hr.c0
      have c31 := hr.c1
      have f30 := hr.f0
      have f31 := hr.f1
      clear hb hr
      have FB := Lib.hid F1
      clear F1
      go_wp2_with fail
      refine bodyPost_ret (v := .tuple #[.agg #[.int .i64 0, .int .i64 0], .int .i64 2]) (by simp [results, Try.results25, c30, c31, go_sem]) rfl ⟨rfl, (FB.out.set _ _).bl⟩
    · have t1 : decide (k < 1) = false := decide_eq_false hk0
      by_cases hk6 : 62 < k
      · refine Calls.mono (R := fun e w' => e = .returned (ivE ((0, 0), 2)) ∧ Below w.heap.size w w') ?_ (fun e w' h => ⟨_, h.1, h.2, fun h => absurd h0 h, fun _ _ => rfl, fun _ _ h => by omega, fun _ _ h => by omega⟩)
        have t2 : decide (62 < k) = true := decide_eq_true hk6
        clear h1 hk0 h0 hk
        show Calls _ _ _ w fun e w' => e = .returned (.tuple #[.agg #[.int .i64 0, .int .i64 0], .int .i64 2]) ∧ _
        unfold ivV
        go_enter Try.func25, Try.ntmps25
        go_wp2_with fail
        refine (HEX.out _ _ (by simp)).mono ?_
        rintro e w1 ⟨he, hb⟩
        subst he
        have F1 := Fm.of2 hb
        have c10 := F1.k0.c0
        have c11 := F1.k0.c1
        obtain ⟨p, q, hr⟩ := F1.res
        have c30 := hr.c0
        have c31 := hr.c1
        have f30 := hr.f0
        have f31 := hr.f1
        clear hb hr
        have FB := Lib.hid F1
        clear F1
        go_wp2_with fail
        refine bodyPost_ret (v := .tuple #[.agg #[.int .i64 0, .int .i64 0], .int .i64 2]) (by simp [results, Try.results25, c30, c31, go_sem]) rfl ⟨rfl, (FB.out.set _ _).bl⟩
      · have t2 : decide (62 < k) = false := decide_eq_false hk6
        by_cases hn : a.1 < 0
        · refine Calls.mono (R := fun e w' => e = .returned (ivE ((0, 0), 9)) ∧ Below w.heap.size w w') ?_ (fun e w' h => ⟨_, h.1, h.2, fun h => absurd h0 h, fun _ h => by omega, fun _ _ _ _ => rfl, fun _ _ _ h => by omega⟩)
          have t3 : decide (a.1 < 0) = true := decide_eq_true hn
          clear h1 hk0 h0 hk hk6
          show Calls _ _ _ w fun e w' => e = .returned (.tuple #[.agg #[.int .i64 0, .int .i64 0], .int .i64 9]) ∧ _
          unfold ivV
          go_enter Try.func25, Try.ntmps25
          go_wp2_with fail
          refine (HEX.out _ _ (by simp)).mono ?_
          rintro e w1 ⟨he, hb⟩
          subst he
          have F1 := Fm.of2 hb
          have c10 := F1.k0.c0
          have c11 := F1.k0.c1
          obtain ⟨p, q, hr⟩ := F1.res
          have c30 := hr.c0
          have c31 := hr.c1
          have f30 := hr.f0
          have f31 := hr.f1
          clear hb hr
          have FB := Lib.hid F1
          clear F1
          go_wp2_with fail
          refine bodyPost_ret (v := .tuple #[.agg #[.int .i64 0, .int .i64 0], .int .i64 9]) (by simp [results, Try.results25, c30, c31, go_sem]) rfl ⟨rfl, (FB.out.set _ _).bl⟩
        · have t3 : decide (a.1 < 0) = false := decide_eq_false hn
          obtain ⟨k, rfl⟩ := Int.eq_ofNat_of_zero_le (show 0 ≤ k by omega)
          refine Calls.mono (R := fun e w' => ∃ lo hi hj, e = .returned (.tuple #[.agg #[.int .i64 lo, .int .i64 hj], .int .i64 0]) ∧ Below w.heap.size w w' ∧ IsRoot a.1 lo k ∧ IsRoot a.2 hi k ∧ hj = if hi ^ k < a.2 then hi + 1 else hi) ?_
            (fun e w' ⟨lo, hi, hj, h1, h2, h3, h4, h5⟩ => ⟨((lo, hj), 0), h1, h2, fun h => absurd h0 h, fun _ h => by omega, fun _ _ _ h => by omega, fun _ _ _ _ => ⟨lo, hi, h3, h4, by rw [h5]; rfl⟩⟩)
          obtain ⟨x, y⟩ := a
          simp only at h1 HEX hn t3 ⊢
          have e1 := okB_iff.1 h1.1
          have e2 := okB_iff.1 h1.2.1
          have hr1 := fun w => root_any x k w (by omega) (by omega) (by omega) (by omega)
          have hr2 := fun w => root_any y k w (by omega) (by omega) (by omega) (by omega)
          have hpw := fun hi (h0 : 0 ≤ hi) (h2 : hi ≤ 4611686018427387904) w => power_any hi k w (by unfold I64; omega) (by omega)
          have hk1 : 1 ≤ k := by omega
          have HR1 := Lib.hid hr1
          have HR2 := Lib.hid hr2
          have HPW := Lib.hid hpw
          have HK1 := Lib.hid hk1
          have E2 := Lib.hid e2
          clear hr1 hr2 hpw h0 h1 hk0 hk6 hn hk hk1 e1 e2
          unfold ivV
          simp only
          go_enter Try.func25, Try.ntmps25
          go_wp2_with fail
          refine (HEX.out _ _ (by simp)).mono ?_
          rintro e w1 ⟨he, hb⟩
          subst he
          have F1 := Fm.of2 hb
          have c10 := F1.k0.c0
          have c11 := F1.k0.c1
          obtain ⟨p, q, hr⟩ := F1.res
          have c30 := hr.c0
          have c31 := hr.c1
          have f30 := hr.f0
          have f31 := hr.f1
          clear hb hr
          have FB := Lib.hid F1
          clear F1
          go_wp2_with fail
          refine (HR2.out _).mono ?_
          rintro e u1 ⟨hi, he, hir, hb⟩
          subst he
          have G1 := FB.out.later hb
          clear FB c10 c11 c30 c31 f30 f31 hb
          have c10 := G1.k0.c0
          have c11 := G1.k0.c1
          have hi0 := hir.1
          have hiu := root_le hir.1 HK1.out hir.2.1 E2.out.2
          have hpi : okB (hi ^ k) = true := by
            have h1 := hir.2.1
            have h2 : 0 ≤ hi ^ k := Int.pow_nonneg hir.1
            have := E2.out
            exact okB_of (by omega)
          have hp1 := HPW.out hi hi0 hiu
          rw [hpi] at hp1
          simp only [if_true] at hp1
          have HP1 := Lib.hid hp1
          have HIR := Lib.hid hir
          have FB := Lib.hid G1
          clear G1 hp1 hir hpi HPW
          go_wp2_with fail
          refine (HP1.out _).mono ?_
          rintro e u2 ⟨he, hb⟩
          subst he
          have G1 := FB.out.later hb
          clear FB c10 c11 hb
          have c10 := G1.k0.c0
          have c11 := G1.k0.c1
          have FB := Lib.hid G1
          clear G1
          by_cases hc : hi ^ k < y
          · have tc : decide (hi ^ k < y) = true := decide_eq_true hc
            have HC := Lib.hid hc
            clear hc
            generalize hP : hi ^ k = P at *
            have HPE := Lib.hid hP
            clear hP
            go_wp2_with fail
            refine (HR1.out _).mono ?_
            rintro e u3 ⟨lo, he, hlr, hb⟩
            subst he
            have G1 := FB.out.later hb
            clear FB c10 c11 hb
            obtain ⟨p, q, hr⟩ := G1.res
            have c30 := hr.c0
            have c31 := hr.c1
            have f30 := hr.f0
            have f31 := hr.f1
            have FB := Lib.hid G1
            have HLR := Lib.hid hlr
            clear G1 hr hlr
            go_wp2_with fail
            refine bodyPost_ret (v := .tuple #[.agg #[.int .i64 lo, .int .i64 (hi + 1)], .int .i64 0]) (by simp [results, Try.results25, c30, c31, go_sem]) rfl ⟨lo, hi, hi + 1, rfl, (FB.out.set _ _).bl, HLR.out, HIR.out, ?_⟩
            rw [HPE.out, if_pos HC.out]
          · have tc : decide (hi ^ k < y) = false := decide_eq_false hc
            have HC := Lib.hid hc
            clear hc
            generalize hP : hi ^ k = P at *
            have HPE := Lib.hid hP
            clear hP
            go_wp2_with fail
            refine (HR1.out _).mono ?_
            rintro e u3 ⟨lo, he, hlr, hb⟩
            subst he
            have G1 := FB.out.later hb
            clear FB c10 c11 hb
            obtain ⟨p, q, hr⟩ := G1.res
            have c30 := hr.c0
            have c31 := hr.c1
            have f30 := hr.f0
            have f31 := hr.f1
            have FB := Lib.hid G1
            have HLR := Lib.hid hlr
            clear G1 hr hlr
            go_wp2_with fail
            refine bodyPost_ret (v := .tuple #[.agg #[.int .i64 lo, .int .i64 hi], .int .i64 0]) (by simp [results, Try.results25, c30, c31, go_sem]) rfl ⟨lo, hi, hi, rfl, (FB.out.set _ _).bl, HLR.out, HIR.out, ?_⟩
            rw [HPE.out, if_neg (by have := HC.out; omega)]
  · refine Calls.mono (R := fun e w' => e = .returned (ivE ((0, 0), examI [a])) ∧ Below w.heap.size w w') ?_ (fun e w' h => ⟨_, h.1, h.2, fun _ => rfl, fun h => absurd h h0, fun h => absurd h h0, fun h => absurd h h0⟩)
    show Calls _ _ _ w fun e w' => e = .returned (.tuple #[.agg #[.int .i64 0, .int .i64 0], .int .i64 (examI [a])]) ∧ _
    clear hk
    unfold ivV
    generalize examI [a] = er at *
    have q1 : (er == 0) = false := by simp [h0]
    have q2 : (er != 0) = true := by simp [h0]
    clear h0
    go_enter Try.func25, Try.ntmps25
    go_wp2_with fail
    refine (HEX.out _ _ (by simp)).mono ?_
    rintro e w1 ⟨he, hb⟩
    subst he
    have F1 := Fm.of2 hb
    have c10 := F1.k0.c0
    have c11 := F1.k0.c1
    obtain ⟨p, q, hr⟩ := F1.res
    have c30 := hr.c0
    have c31 := hr.c1
    have f30 := hr.f0
    have f31 := hr.f1
    clear hb hr
    have FB := Lib.hid F1
    clear F1
    go_wp2_with fail
    refine bodyPost_ret (v := .tuple #[.agg #[.int .i64 0, .int .i64 0], .int .i64 er]) (by simp [results, Try.results25, c30, c31, go_sem]) rfl ⟨rfl, (FB.out.set _ _).bl⟩
end Go.Proofs.Ytmmgbofhbnflkaa
