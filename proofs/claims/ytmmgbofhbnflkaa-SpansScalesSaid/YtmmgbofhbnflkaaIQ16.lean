import Derived.Test.YtmmgbofhbnflkaaIQ15
namespace Go.Proofs.Ytmmgbofhbnflkaa
open Go.RowKit

/-! The reference's Pow. -/
theorem ipow_nonneg {x : Int} (h : 0 ≤ x) (k : Nat) : 0 ≤ x ^ k := by
  induction k with
  | zero => rw [Int.pow_zero]; omega
  | succ k ih => rw [Int.pow_succ]; exact Int.mul_nonneg ih h
theorem ipow_mono {x y : Int} (h : 0 ≤ x) (hxy : x ≤ y) (k : Nat) : x ^ k ≤ y ^ k := by
  induction k with
  | zero => rw [Int.pow_zero, Int.pow_zero]; omega
  | succ k ih => rw [Int.pow_succ, Int.pow_succ]; exact Int.mul_le_mul ih hxy h (ipow_nonneg (by omega) k)
theorem ipow_neg (x : Int) (k : Nat) : (-x) ^ k = if k % 2 = 0 then x ^ k else -(x ^ k) := by
  induction k with
  | zero => simp
  | succ k ih =>
    rw [Int.pow_succ, ih, Int.pow_succ]
    by_cases h : k % 2 = 0
    · rw [if_pos h, if_neg (by omega), Int.mul_neg]
    · rw [if_neg h, if_pos (by omega), Int.neg_mul_neg]
theorem ipow_zero {k : Nat} (h : 0 < k) : (0 : Int) ^ k = 0 := by
  obtain ⟨j, rfl⟩ : ∃ j, k = j + 1 := ⟨k - 1, by omega⟩
  rw [Int.pow_succ, Int.mul_zero]
def powS (a1 a2 : Int) (k : Nat) : Int × Int := if k % 2 = 0 then sizesI (a1, a2) else (a1, a2)
theorem pow_pure {a1 a2 : Int} (h : a1 ≤ a2) (k : Nat) :
    (¬ (0 < k ∧ a1 ≤ 0 ∧ 0 ≤ a2) → min (a1 ^ k) (a2 ^ k) = (powS a1 a2 k).1 ^ k ∧ max (a1 ^ k) (a2 ^ k) = (powS a1 a2 k).2 ^ k) ∧
    ((0 < k ∧ a1 ≤ 0 ∧ 0 ≤ a2) → min (min (a1 ^ k) (a2 ^ k)) 0 = (powS a1 a2 k).1 ^ k ∧ max (max (a1 ^ k) (a2 ^ k)) 0 = (powS a1 a2 k).2 ^ k) := by
  unfold powS
  by_cases hk0 : k = 0
  · subst hk0
    refine ⟨fun _ => ?_, fun hc => absurd hc.1 (by omega)⟩
    simp only [Int.pow_zero]
    omega
  · have hkp : 0 < k := by omega
    have n1 := ipow_neg a1 k
    have n2 := ipow_neg a2 k
    by_cases hp : k % 2 = 0
    · rw [if_pos hp] at n1 n2 ⊢
      unfold sizesI negI
      simp only
      by_cases c1 : 0 ≤ a1
      · rw [if_pos c1]
        have m := ipow_mono c1 h k
        have p := ipow_nonneg c1 k
        refine ⟨fun _ => by simp only; omega, fun hc => ?_⟩
        have h0 : a1 = 0 := by omega
        have z : a1 ^ k = 0 := by rw [h0]; exact ipow_zero hkp
        simp only
        omega
      · rw [if_neg c1]
        by_cases c2 : a2 ≤ 0
        · rw [if_pos c2]
          have m := ipow_mono (x := -a2) (y := -a1) (by omega) (by omega) k
          have p := ipow_nonneg (x := -a2) (by omega) k
          simp only
          refine ⟨fun _ => by omega, fun hc => ?_⟩
          have h0 : a2 = 0 := by omega
          have z : a2 ^ k = 0 := by rw [h0]; exact ipow_zero hkp
          omega
        · rw [if_neg c2]
          have z := ipow_zero hkp
          have p1 := ipow_nonneg (x := -a1) (by omega) k
          have p2 := ipow_nonneg (x := a2) (by omega) k
          refine ⟨fun hc => absurd ⟨hkp, by omega, by omega⟩ hc, fun _ => ?_⟩
          simp only
          rw [z]
          rcases Int.le_total (-a1) a2 with g | g
          · have m := ipow_mono (x := -a1) (y := a2) (by omega) g k
            rw [show max (-a1) a2 = a2 by omega]
            omega
          · have m := ipow_mono (x := a2) (y := -a1) (by omega) g k
            rw [show max (-a1) a2 = -a1 by omega]
            omega
    · rw [if_neg hp] at n1 n2 ⊢
      simp only
      have hm : a1 ^ k ≤ a2 ^ k ∧ (a1 ≤ 0 → a1 ^ k ≤ 0) ∧ (0 ≤ a2 → 0 ≤ a2 ^ k) := by
        have q1 : a1 ≤ 0 → a1 ^ k ≤ 0 := fun h => by have := ipow_nonneg (x := -a1) (by omega) k; omega
        have q2 : 0 ≤ a2 → 0 ≤ a2 ^ k := fun h => ipow_nonneg h k
        refine ⟨?_, q1, q2⟩
        by_cases c1 : 0 ≤ a1
        · exact ipow_mono c1 h k
        · by_cases c2 : 0 ≤ a2
          · have := q1 (by omega); have := q2 c2; omega
          · have := ipow_mono (x := -a2) (y := -a1) (by omega) (by omega) k; omega
      exact ⟨fun _ => by omega, fun hc => by have := hm.2.1 hc.2.1; have := hm.2.2 hc.2.2; omega⟩
theorem own_lit (V : World) (x y : FV) : (V.alloc (.cells #[.bool x.s, .slice x.A x.n x.c, .slice x.B x.m x.d, .bool y.s, .slice y.A y.n y.c, .slice y.B y.m y.d] 61)).ownsRow V.heap.size 61 3 (.slice (some ⟨V.heap.size, 0, none⟩) 2 2) 2 (flatQ [x, y]) :=
  ⟨rfl, .inr ⟨V.heap.size, 2, _, rfl, Nat.le_refl _, World.alloc_heap_new V _, Nat.le_refl _, by unfold maxLen; omega, rfl, rfl⟩⟩
theorem own_at {W : World} {base n : Nat} {v : Value} {xs : List FV} (h : W.ownsRow base 61 3 v n (flatQ xs)) (hn : 0 < n) : ∃ g cap, v = .slice (some ⟨g, 0, none⟩) n cap ∧ g < W.heap.size ∧ ∀ (k : Nat) (x : FV), xs[k]? = some x → FvAt W g k x := by
  obtain ⟨g, cap, rfl, -, hlt⟩ := h.form hn
  refine ⟨g, cap, rfl, hlt, fun k x hx => ?_⟩
  obtain ⟨f0, f1, f2⟩ := flatQ_at xs k x hx
  have hc := h.cells (g := g) rfl
  refine ⟨?_, ?_, ?_⟩
  · have := hc _ _ f0; rw [add_eq] at this; exact this
  · have := hc _ _ f1; rw [add_eq] at this; exact this
  · have := hc _ _ f2; rw [add_eq] at this; exact this

set_option maxRecDepth 100000 in
set_option maxHeartbeats 8000000 in
theorem rPow03_any (a : Int × Int) (k : Int) (w : World) :
    Calls Try.prog 24 #[ivV a, .int .i64 k] w fun e w' => e = .returned (ivE (powE a k)) ∧ Below w.heap.size w w' := by
  have hck := fun W => rcheck_any a W
  have HCK := Lib.hid hck
  clear hck
  by_cases h0 : examI [a] = 0
  · rw [h0] at HCK
    obtain ⟨ho1, ho2, hle⟩ := examI_ok h0 a (by simp)
    by_cases hbad : k < 0 ∨ 62 < k
    · have hR : ivE (powE a k) = .tuple #[.agg #[.int .i64 0, .int .i64 0], .int .i64 2] := by unfold powE powW; rw [if_pos h0, if_pos hbad]; rfl
      rw [hR]
      clear hR h0 ho1 ho2 hle
      obtain ⟨a1, a2⟩ := a
      unfold ivV at HCK ⊢
      simp only at HCK ⊢
      by_cases hk : k < 0
      · clear hbad
        go_enter Try.func24, Try.ntmps24
        go_wp2_with fail
        refine (HCK.out _).mono ?_
        rintro e w1 ⟨he, hb⟩
        subst he
        have F1 := Fm.of2 hb
        have c10 := F1.k0.c0
        have c11 := F1.k0.c1
        clear hb
        obtain ⟨p, q, hr⟩ := F1.res
        have c30 := hr.c0
        have c31 := hr.c1
        have f30 := hr.f0
        have f31 := hr.f1
        clear hr
        have FB := Lib.hid F1
        clear F1
        go_wp2_with fail
        refine bodyPost_ret (v := .tuple #[.agg #[.int .i64 0, .int .i64 0], .int .i64 2]) (by simp [results, Try.results24, c30, c31, go_sem]) rfl ⟨rfl, (FB.out.set _ _).bl⟩
      · have hk2 : 62 < k := by omega
        clear hbad
        go_enter Try.func24, Try.ntmps24
        go_wp2_with fail
        refine (HCK.out _).mono ?_
        rintro e w1 ⟨he, hb⟩
        subst he
        have F1 := Fm.of2 hb
        have c10 := F1.k0.c0
        have c11 := F1.k0.c1
        clear hb
        obtain ⟨p, q, hr⟩ := F1.res
        have c30 := hr.c0
        have c31 := hr.c1
        have f30 := hr.f0
        have f31 := hr.f1
        clear hr
        have FB := Lib.hid F1
        clear F1
        go_wp2_with fail
        refine bodyPost_ret (v := .tuple #[.agg #[.int .i64 0, .int .i64 0], .int .i64 2]) (by simp [results, Try.results24, c30, c31, go_sem]) rfl ⟨rfl, (FB.out.set _ _).bl⟩
    · obtain ⟨j, rfl⟩ : ∃ j : Nat, k = (j : Int) := ⟨k.toNat, by omega⟩
      have hj : j ≤ 62 := by omega
      have hq1 := fun W => Quo03_any a.1 (okB_iff.1 ho1) W
      have hq2 := fun W => Quo03_any a.2 (okB_iff.1 ho2) W
      have hq0 := fun W => Quo03_any 0 (by decide) W
      have hres : powE a (j : Int) = spanW ((powS a.1 a.2 j).1 ^ j) ((powS a.1 a.2 j).2 ^ j) := by
        unfold powE powW powS
        rw [if_pos h0, if_neg hbad, Int.toNat_natCast]
        by_cases hp : j % 2 = 0
        · rw [if_pos hp, if_pos (show (j : Int) % 2 = 0 by omega)]
        · rw [if_neg hp, if_neg (show ¬ (j : Int) % 2 = 0 by omega)]
      rw [hres]
      obtain ⟨hp2, hp3⟩ := pow_pure hle j
      have d1 : ∀ n : Int, n / ((1 : Nat) : Int) = n := fun n => by rw [Int.natCast_one, Int.ediv_one]
      have hs2 : ¬ (0 < j ∧ a.1 ≤ 0 ∧ 0 ≤ a.2) → ∀ (x y : FV) (e : Ending) (W V W' : World), Below V.heap.size V W → x.D ≠ 0 → y.D ≠ 0 → x.N * ((1 : Nat) : Int) = a.1 ^ j * (x.D : Int) → y.N * ((1 : Nat) : Int) = a.2 ^ j * (y.D : Int) → SpPost W [x, y] e W' → e = .returned (ivE (spanW ((powS a.1 a.2 j).1 ^ j) ((powS a.1 a.2 j).2 ^ j))) ∧ Below V.heap.size V W' := by
        intro hc x y e W V W' hV e1 e2 e3 e4 h
        obtain ⟨c, hc0, hc1⟩ : ∃ c : Nat → Int, c 0 = a.1 ^ j ∧ c 1 = a.2 ^ j := ⟨fun k => if k = 0 then a.1 ^ j else a.2 ^ j, rfl, rfl⟩
        obtain ⟨i, l, hi, hl, hall, he, hb⟩ := spanN (c := c) (d := 1) (n := 2) (by omega) rfl (fun k z hz => by
          match k, hz with
          | 0, hz => simp at hz; subst hz; exact ⟨e1, by rw [hc0]; exact e3⟩
          | 1, hz => simp at hz; subst hz; exact ⟨e2, by rw [hc1]; exact e4⟩
          | k + 2, hz => simp at hz) h
        obtain ⟨m1, m2⟩ := hp2 hc
        have q0 := hall 0 (by omega)
        have q1 := hall 1 (by omega)
        have ei : c i = (powS a.1 a.2 j).1 ^ j := by
          rw [← m1]
          have : i = 0 ∨ i = 1 := by omega
          rcases this with rfl | rfl <;> omega
        have el : c l = (powS a.1 a.2 j).2 ^ j := by
          rw [← m2]
          have : l = 0 ∨ l = 1 := by omega
          rcases this with rfl | rfl <;> omega
        rw [d1, upI_cast, ei, el] at he
        exact ⟨he, Below.after hV hb⟩
      have hs3 : (0 < j ∧ a.1 ≤ 0 ∧ 0 ≤ a.2) → ∀ (x y z : FV) (e : Ending) (W W' : World), x.D ≠ 0 → y.D ≠ 0 → z.D ≠ 0 → x.N * ((1 : Nat) : Int) = a.1 ^ j * (x.D : Int) → y.N * ((1 : Nat) : Int) = a.2 ^ j * (y.D : Int) → z.N * ((1 : Nat) : Int) = 0 * (z.D : Int) → SpPost W [x, y, z] e W' → e = .returned (ivE (spanW ((powS a.1 a.2 j).1 ^ j) ((powS a.1 a.2 j).2 ^ j))) ∧ Below W.heap.size W W' := by
        intro hc x y z e W W' e1 e2 e2' e3 e4 e5 h
        obtain ⟨c, hc0, hc1, hc2⟩ : ∃ c : Nat → Int, c 0 = a.1 ^ j ∧ c 1 = a.2 ^ j ∧ c 2 = 0 := ⟨fun k => if k = 0 then a.1 ^ j else if k = 1 then a.2 ^ j else 0, rfl, rfl, rfl⟩
        obtain ⟨i, l, hi, hl, hall, he, hb⟩ := spanN (c := c) (d := 1) (n := 3) (by omega) rfl (fun k u hz => by
          match k, hz with
          | 0, hz => simp at hz; subst hz; exact ⟨e1, by rw [hc0]; exact e3⟩
          | 1, hz => simp at hz; subst hz; exact ⟨e2, by rw [hc1]; exact e4⟩
          | 2, hz => simp at hz; subst hz; exact ⟨e2', by rw [hc2]; exact e5⟩
          | k + 3, hz => simp at hz) h
        obtain ⟨m1, m2⟩ := hp3 hc
        have q0 := hall 0 (by omega)
        have q1 := hall 1 (by omega)
        have q2 := hall 2 (by omega)
        have ei : c i = (powS a.1 a.2 j).1 ^ j := by
          rw [← m1]
          have : i = 0 ∨ i = 1 ∨ i = 2 := by omega
          rcases this with rfl | rfl | rfl <;> omega
        have el : c l = (powS a.1 a.2 j).2 ^ j := by
          rw [← m2]
          have : l = 0 ∨ l = 1 ∨ l = 2 := by omega
          rcases this with rfl | rfl | rfl <;> omega
        rw [d1, upI_cast, ei, el] at he
        exact ⟨he, hb⟩
      obtain ⟨sx, sy, sc, hform⟩ : ∃ x y z, spanW ((powS a.1 a.2 j).1 ^ j) ((powS a.1 a.2 j).2 ^ j) = ((x, y), z) := ⟨_, _, _, rfl⟩
      rw [hform] at hs2 hs3 ⊢
      have HQ1 := Lib.hid hq1
      have HQ2 := Lib.hid hq2
      have HQ0 := Lib.hid hq0
      have HS2A := Lib.hid hs2
      have HS3A := Lib.hid hs3
      clear hq1 hq2 hq0 hres hs2 hs3 hform h0 ho1 ho2 hle hp2 hp3 d1
      obtain ⟨a1, a2⟩ := a
      unfold ivE ivV at HS2A HS3A ⊢
      unfold ivV at HCK
      simp only at HCK HQ1 HQ2 HS2A HS3A ⊢
      have j0 : (0 : Int) ≤ (j : Int) := Int.natCast_nonneg _
      have j1 : (j : Int) ≤ 62 := by omega
      clear hbad
      obtain ⟨k, hk⟩ : ∃ k, k = j := ⟨_, rfl⟩
      subst hk
      by_cases hc : 0 < k ∧ a1 ≤ 0 ∧ 0 ≤ a2
      · have HS3 := Lib.hid (HS3A.out hc)
        obtain ⟨g1, g2, g3⟩ := hc
        have t1 : (0 : Int) < (k : Int) := by omega
        clear HS2A HS3A
        go_enter Try.func24, Try.ntmps24
        go_wp2_with fail
        refine (HCK.out _).mono ?_
        rintro e w1 ⟨he, hb⟩
        subst he
        have F1 := Fm.of2 hb
        have c10 := F1.k0.c0
        have c11 := F1.k0.c1
        clear hb
        go_wp2_with fail
        refine (HQ1.out _).mono ?_
        rintro e w2 ⟨sq, Aq, lq, pq, Bq, mq, dq, Nq, Dq, he, hfq, ⟨hNq, hDq⟩, hb2⟩
        subst he
        have F2 := F1.later hb2
        rw [hNq, hDq] at hfq
        have HPW1 := Lib.hid (fpow hfq k (by omega) (by omega) (by decide))
        clear hNq hDq hfq F1 hb2 c10 c11
        go_wp2_with fail
        refine HPW1.out.mono ?_
        rintro e w3 ⟨s1, A1, l1, p1, B1, m1, d1, N1, D1, he, hf1, hP1, hb3⟩
        subst he
        have F3 := (F2.later hb3).alloc (.cells #[.bool s1, .slice A1 l1 p1, .slice B1 m1 d1] 61)
        have HP1 := Lib.hid hP1
        have HQx0 := Lib.hid (QB.new w3 s1 (.slice A1 l1 p1) (.slice B1 m1 d1))
        have HFX0 := Lib.hid (FQ.up hf1 (Below.one w3 (.cells #[.bool s1, .slice A1 l1 p1, .slice B1 m1 d1] 61)))
        have c10 := F3.k0.c0
        have c11 := F3.k0.c1
        clear hP1 hf1 hb3 F2 HPW1
        go_wp2_with fail
        refine (HQ2.out _).mono ?_
        rintro e w4 ⟨sr, Ar, lr, pr, Br, mr, dr, Nr, Dr, he, hfr, ⟨hNr, hDr⟩, hb4⟩
        subst he
        have F4 := F3.later hb4
        rw [hNr, hDr] at hfr
        have HPW2 := Lib.hid (fpow hfr k (by omega) (by omega) (by decide))
        have HQx1 := Lib.hid (HQx0.out.below hb4 HQx0.out.lt)
        have HFX1 := Lib.hid (FQ.up HFX0.out hb4)
        clear hNr hDr hfr F3 hb4 c10 c11 HQx0 HFX0
        go_wp2_with fail
        refine HPW2.out.mono ?_
        rintro e w5 ⟨s2, A2, l2, p2, B2, m2, d2, N2, D2, he, hf2, hP2, hb5⟩
        subst he
        have F5 := (F4.later hb5).alloc (.cells #[.bool s2, .slice A2 l2 p2, .slice B2 m2 d2] 61)
        have HP2 := Lib.hid hP2
        have hsz5 : w3.heap.size < w5.heap.size := Nat.lt_of_lt_of_le HQx1.out.lt hb5.size
        have HQx := Lib.hid ((HQx1.out.below hb5 HQx1.out.lt).below (Below.one w5 (.cells #[.bool s2, .slice A2 l2 p2, .slice B2 m2 d2] 61)) hsz5)
        have HFX := Lib.hid (FQ.up (FQ.up HFX1.out hb5) (Below.one w5 (.cells #[.bool s2, .slice A2 l2 p2, .slice B2 m2 d2] 61)))
        have HQy := Lib.hid (QB.new w5 s2 (.slice A2 l2 p2) (.slice B2 m2 d2))
        have HFY := Lib.hid (FQ.up hf2 (Below.one w5 (.cells #[.bool s2, .slice A2 l2 p2, .slice B2 m2 d2] 61)))
        have HF5 := Lib.hid F5
        have HR1 := Lib.hid (show N1 * ((1 : Nat) : Int) = a1 ^ k * (D1 : Int) by have h := HP1.out; rw [Nat.one_pow] at h; exact h)
        have HR2 := Lib.hid (show N2 * ((1 : Nat) : Int) = a2 ^ k * (D2 : Int) by have h := HP2.out; rw [Nat.one_pow] at h; exact h)
        clear hP2 hf2 hb5 F4 F5 HPW2 HQx1 HFX1 hsz5
        obtain ⟨V, hV⟩ : ∃ V, V = w5.alloc (.cells #[.bool s2, .slice A2 l2 p2, .slice B2 m2 d2] 61) := ⟨_, rfl⟩
        have HVS := Lib.hid hV.symm
        have HVZ := Lib.hid (show V.heap.size = w5.heap.size + 1 by rw [hV]; simp)
        rw [← hV] at HQx HFX HQy HFY HF5
        have x0 := HQx.out.c0
        have x1 := HQx.out.c1
        have x2 := HQx.out.c2
        have y0 := HQy.out.c0
        have y1 := HQy.out.c1
        have y2 := HQy.out.c2
        have c10 := HF5.out.k0.c0
        have c11 := HF5.out.k0.c1
        rw [hV] at x0 x1 x2 y0 y1 y2 c10 c11
        have KA := (HF5.out.alloc (.cells #[.bool s1, .slice A1 l1 p1, .slice B1 m1 d1, .bool s2, .slice A2 l2 p2, .slice B2 m2 d2] 61)).k0
        have kc0 := KA.c0
        have kc1 := KA.c1
        rw [hV] at kc0 kc1
        clear hV KA
        go_wp2_with fail
        rw [HVS.out]
        clear x0 x1 x2 y0 y1 y2 c10 c11 kc0 kc1
        have HOW := Lib.hid (own_lit V ⟨s1, A1, l1, p1, B1, m1, d1, N1, D1⟩ ⟨s2, A2, l2, p2, B2, m2, d2, N2, D2⟩)
        simp only at HOW
        have HBA := Lib.hid (Below.one V (.cells #[.bool s1, .slice A1 l1 p1, .slice B1 m1 d1, .bool s2, .slice A2 l2 p2, .slice B2 m2 d2] 61))
        generalize V.alloc (.cells #[.bool s1, .slice A1 l1 p1, .slice B1 m1 d1, .bool s2, .slice A2 l2 p2, .slice B2 m2 d2] 61) = V1 at *
        refine (HQ0.out _).mono ?_
        rintro e w7 ⟨sz, Az, lz, pz, Bz, mz, dz, Nz, Dz, he, hfz, ⟨hNz, hDz⟩, hb7⟩
        subst he
        have hown := HOW.out.kept (grownBy_of_below hb7) (by simp [Value.ownBlock])
        have HBV := Lib.hid (Below.after HBA.out hb7)
        have HFZ := Lib.hid hfz
        have HRZ := Lib.hid (show Nz * ((1 : Nat) : Int) = 0 * (Dz : Int) by rw [hNz, Int.zero_mul, Int.zero_mul])
        clear hfz hNz hDz hb7
        have HOWN := Lib.hid hown
        have hownZ := hown
        have hsvZ := HBV.out.size
        rw [HVZ.out] at hownZ hsvZ
        have HOWZ := Lib.hid hownZ
        have HSV := Lib.hid hsvZ
        clear hownZ hsvZ
        go_wp2_with (at_builtin; refine append_quo rfl (.tmp 59) (.tmp 61) rfl (xs := [⟨s1, A1, l1, p1, B1, m1, d1, N1, D1⟩, ⟨s2, A2, l2, p2, B2, m2, d2, N2, D2⟩]) (z := ⟨sz, Az, lz, pz, Bz, mz, dz, Nz, Dz⟩) rfl rfl HOWZ.out HSV.out (by omega) ?_; intro v' w10 hown10 hgr10)
        rw [← HVZ.out] at hown10 hgr10
        have hba := Below.one w7 (.cells #[.bool sz, .slice Az lz pz, .slice Bz mz dz] 61)
        have hbv := Below.after HBV.out hba
        have how2 := HOWN.out.alloc (.cells #[.bool sz, .slice Az lz pz, .slice Bz mz dz] 61)
        have hb10 := rbelow_grownQ hbv how2 hgr10
        have hfz10 := FQ.grown (FQ.up HFZ.out hba) how2 hgr10
        obtain ⟨g, cap, he, hg, hat⟩ := own_at hown10 (by omega)
        subst he
        have HSA := Lib.hid ((Span_any g cap 125 [⟨s1, A1, l1, p1, B1, m1, d1, N1, D1⟩, ⟨s2, A2, l2, p2, B2, m2, d2, N2, D2⟩, ⟨sz, Az, lz, pz, Bz, mz, dz, Nz, Dz⟩] w10 (by decide) (by simp) hg hat (fun z hz => by
          simp at hz
          rcases hz with rfl | rfl | rfl
          · exact FQ.more (FQ.up HFX.out hb10) (by omega)
          · exact FQ.more (FQ.up HFY.out hb10) (by omega)
          · exact FQ.more hfz10 (by omega))).mono (fun e w' h => HS3.out _ _ _ e w10 w' HFX.out.ne HFY.out.ne HFZ.out.ne HR1.out HR2.out HRZ.out h))
        have HFT := Lib.hid (HF5.out.later hb10)
        clear hba hbv how2 hb10 hfz10 hg hat hown hown10 hgr10
        go_wp2_with fail
        refine HSA.out.mono ?_
        rintro e w11 ⟨he, hb11⟩
        subst he
        have F11 := HFT.out.later hb11
        obtain ⟨q1, q2, hr⟩ := F11.res
        have c30 := hr.c0
        have c31 := hr.c1
        have f30 := hr.f0
        have f31 := hr.f1
        have FB := Lib.hid F11
        clear hr F11 hb11
        go_wp2_with fail
        refine bodyPost_ret (v := .tuple #[.agg #[.int .i64 sx, .int .i64 sy], .int .i64 sc]) (by simp [results, Try.results24, c30, c31, go_sem]) rfl ⟨rfl, (FB.out.set _ _).bl⟩
      · have HS2 := Lib.hid (HS2A.out hc)
        clear HS2A HS3A
        by_cases g1 : 0 < k
        · have t1 : (0 : Int) < (k : Int) := by omega
          by_cases g2 : a1 ≤ 0
          · have g3 : ¬ 0 ≤ a2 := fun h => hc ⟨g1, g2, h⟩
            clear hc
            go_enter Try.func24, Try.ntmps24
            go_wp2_with fail
            refine (HCK.out _).mono ?_
            rintro e w1 ⟨he, hb⟩
            subst he
            have F1 := Fm.of2 hb
            have c10 := F1.k0.c0
            have c11 := F1.k0.c1
            clear hb
            go_wp2_with fail
            refine (HQ1.out _).mono ?_
            rintro e w2 ⟨sq, Aq, lq, pq, Bq, mq, dq, Nq, Dq, he, hfq, ⟨hNq, hDq⟩, hb2⟩
            subst he
            have F2 := F1.later hb2
            rw [hNq, hDq] at hfq
            have HPW1 := Lib.hid (fpow hfq k (by omega) (by omega) (by decide))
            clear hNq hDq hfq F1 hb2 c10 c11
            go_wp2_with fail
            refine HPW1.out.mono ?_
            rintro e w3 ⟨s1, A1, l1, p1, B1, m1, d1, N1, D1, he, hf1, hP1, hb3⟩
            subst he
            have F3 := (F2.later hb3).alloc (.cells #[.bool s1, .slice A1 l1 p1, .slice B1 m1 d1] 61)
            have HP1 := Lib.hid hP1
            have HQx0 := Lib.hid (QB.new w3 s1 (.slice A1 l1 p1) (.slice B1 m1 d1))
            have HFX0 := Lib.hid (FQ.up hf1 (Below.one w3 (.cells #[.bool s1, .slice A1 l1 p1, .slice B1 m1 d1] 61)))
            have c10 := F3.k0.c0
            have c11 := F3.k0.c1
            clear hP1 hf1 hb3 F2 HPW1
            go_wp2_with fail
            refine (HQ2.out _).mono ?_
            rintro e w4 ⟨sr, Ar, lr, pr, Br, mr, dr, Nr, Dr, he, hfr, ⟨hNr, hDr⟩, hb4⟩
            subst he
            have F4 := F3.later hb4
            rw [hNr, hDr] at hfr
            have HPW2 := Lib.hid (fpow hfr k (by omega) (by omega) (by decide))
            have HQx1 := Lib.hid (HQx0.out.below hb4 HQx0.out.lt)
            have HFX1 := Lib.hid (FQ.up HFX0.out hb4)
            clear hNr hDr hfr F3 hb4 c10 c11 HQx0 HFX0
            go_wp2_with fail
            refine HPW2.out.mono ?_
            rintro e w5 ⟨s2, A2, l2, p2, B2, m2, d2, N2, D2, he, hf2, hP2, hb5⟩
            subst he
            have F5 := (F4.later hb5).alloc (.cells #[.bool s2, .slice A2 l2 p2, .slice B2 m2 d2] 61)
            have HP2 := Lib.hid hP2
            have hsz5 : w3.heap.size < w5.heap.size := Nat.lt_of_lt_of_le HQx1.out.lt hb5.size
            have HQx := Lib.hid ((HQx1.out.below hb5 HQx1.out.lt).below (Below.one w5 (.cells #[.bool s2, .slice A2 l2 p2, .slice B2 m2 d2] 61)) hsz5)
            have HFX := Lib.hid (FQ.up (FQ.up HFX1.out hb5) (Below.one w5 (.cells #[.bool s2, .slice A2 l2 p2, .slice B2 m2 d2] 61)))
            have HQy := Lib.hid (QB.new w5 s2 (.slice A2 l2 p2) (.slice B2 m2 d2))
            have HFY := Lib.hid (FQ.up hf2 (Below.one w5 (.cells #[.bool s2, .slice A2 l2 p2, .slice B2 m2 d2] 61)))
            have HF5 := Lib.hid F5
            have HR1 := Lib.hid (show N1 * ((1 : Nat) : Int) = a1 ^ k * (D1 : Int) by have h := HP1.out; rw [Nat.one_pow] at h; exact h)
            have HR2 := Lib.hid (show N2 * ((1 : Nat) : Int) = a2 ^ k * (D2 : Int) by have h := HP2.out; rw [Nat.one_pow] at h; exact h)
            clear hP2 hf2 hb5 F4 F5 HPW2 HQx1 HFX1 hsz5
            obtain ⟨V, hV⟩ : ∃ V, V = w5.alloc (.cells #[.bool s2, .slice A2 l2 p2, .slice B2 m2 d2] 61) := ⟨_, rfl⟩
            have HVS := Lib.hid hV.symm
            have HVZ := Lib.hid (show V.heap.size = w5.heap.size + 1 by rw [hV]; simp)
            rw [← hV] at HQx HFX HQy HFY HF5
            have x0 := HQx.out.c0
            have x1 := HQx.out.c1
            have x2 := HQx.out.c2
            have y0 := HQy.out.c0
            have y1 := HQy.out.c1
            have y2 := HQy.out.c2
            have c10 := HF5.out.k0.c0
            have c11 := HF5.out.k0.c1
            rw [hV] at x0 x1 x2 y0 y1 y2 c10 c11
            have KA := (HF5.out.alloc (.cells #[.bool s1, .slice A1 l1 p1, .slice B1 m1 d1, .bool s2, .slice A2 l2 p2, .slice B2 m2 d2] 61)).k0
            have kc0 := KA.c0
            have kc1 := KA.c1
            rw [hV] at kc0 kc1
            clear hV KA
            go_wp2_with fail
            rw [HVS.out]
            have hsa := ((span2 V 125 ⟨s1, A1, l1, p1, B1, m1, d1, N1, D1⟩ ⟨s2, A2, l2, p2, B2, m2, d2, N2, D2⟩ (by decide) (FQ.more HFX.out (by omega)) (FQ.more HFY.out (by omega))).mono (fun e w' ⟨W, hW, h⟩ => HS2.out _ _ e W V w' hW HFX.out.ne HFY.out.ne HR1.out HR2.out h))
            rw [HVZ.out] at hsa
            have HSA := Lib.hid hsa
            have HFT := HF5
            clear hsa
            clear x0 x1 x2 y0 y1 y2 c10 c11 kc0 kc1
            refine HSA.out.mono ?_
            rintro e w11 ⟨he, hb11⟩
            subst he
            rw [← HVZ.out] at hb11
            have F11 := HFT.out.later hb11
            obtain ⟨q1, q2, hr⟩ := F11.res
            have c30 := hr.c0
            have c31 := hr.c1
            have f30 := hr.f0
            have f31 := hr.f1
            have FB := Lib.hid F11
            clear hr F11 hb11
            go_wp2_with fail
            refine bodyPost_ret (v := .tuple #[.agg #[.int .i64 sx, .int .i64 sy], .int .i64 sc]) (by simp [results, Try.results24, c30, c31, go_sem]) rfl ⟨rfl, (FB.out.set _ _).bl⟩
          · clear hc
            go_enter Try.func24, Try.ntmps24
            go_wp2_with fail
            refine (HCK.out _).mono ?_
            rintro e w1 ⟨he, hb⟩
            subst he
            have F1 := Fm.of2 hb
            have c10 := F1.k0.c0
            have c11 := F1.k0.c1
            clear hb
            go_wp2_with fail
            refine (HQ1.out _).mono ?_
            rintro e w2 ⟨sq, Aq, lq, pq, Bq, mq, dq, Nq, Dq, he, hfq, ⟨hNq, hDq⟩, hb2⟩
            subst he
            have F2 := F1.later hb2
            rw [hNq, hDq] at hfq
            have HPW1 := Lib.hid (fpow hfq k (by omega) (by omega) (by decide))
            clear hNq hDq hfq F1 hb2 c10 c11
            go_wp2_with fail
            refine HPW1.out.mono ?_
            rintro e w3 ⟨s1, A1, l1, p1, B1, m1, d1, N1, D1, he, hf1, hP1, hb3⟩
            subst he
            have F3 := (F2.later hb3).alloc (.cells #[.bool s1, .slice A1 l1 p1, .slice B1 m1 d1] 61)
            have HP1 := Lib.hid hP1
            have HQx0 := Lib.hid (QB.new w3 s1 (.slice A1 l1 p1) (.slice B1 m1 d1))
            have HFX0 := Lib.hid (FQ.up hf1 (Below.one w3 (.cells #[.bool s1, .slice A1 l1 p1, .slice B1 m1 d1] 61)))
            have c10 := F3.k0.c0
            have c11 := F3.k0.c1
            clear hP1 hf1 hb3 F2 HPW1
            go_wp2_with fail
            refine (HQ2.out _).mono ?_
            rintro e w4 ⟨sr, Ar, lr, pr, Br, mr, dr, Nr, Dr, he, hfr, ⟨hNr, hDr⟩, hb4⟩
            subst he
            have F4 := F3.later hb4
            rw [hNr, hDr] at hfr
            have HPW2 := Lib.hid (fpow hfr k (by omega) (by omega) (by decide))
            have HQx1 := Lib.hid (HQx0.out.below hb4 HQx0.out.lt)
            have HFX1 := Lib.hid (FQ.up HFX0.out hb4)
            clear hNr hDr hfr F3 hb4 c10 c11 HQx0 HFX0
            go_wp2_with fail
            refine HPW2.out.mono ?_
            rintro e w5 ⟨s2, A2, l2, p2, B2, m2, d2, N2, D2, he, hf2, hP2, hb5⟩
            subst he
            have F5 := (F4.later hb5).alloc (.cells #[.bool s2, .slice A2 l2 p2, .slice B2 m2 d2] 61)
            have HP2 := Lib.hid hP2
            have hsz5 : w3.heap.size < w5.heap.size := Nat.lt_of_lt_of_le HQx1.out.lt hb5.size
            have HQx := Lib.hid ((HQx1.out.below hb5 HQx1.out.lt).below (Below.one w5 (.cells #[.bool s2, .slice A2 l2 p2, .slice B2 m2 d2] 61)) hsz5)
            have HFX := Lib.hid (FQ.up (FQ.up HFX1.out hb5) (Below.one w5 (.cells #[.bool s2, .slice A2 l2 p2, .slice B2 m2 d2] 61)))
            have HQy := Lib.hid (QB.new w5 s2 (.slice A2 l2 p2) (.slice B2 m2 d2))
            have HFY := Lib.hid (FQ.up hf2 (Below.one w5 (.cells #[.bool s2, .slice A2 l2 p2, .slice B2 m2 d2] 61)))
            have HF5 := Lib.hid F5
            have HR1 := Lib.hid (show N1 * ((1 : Nat) : Int) = a1 ^ k * (D1 : Int) by have h := HP1.out; rw [Nat.one_pow] at h; exact h)
            have HR2 := Lib.hid (show N2 * ((1 : Nat) : Int) = a2 ^ k * (D2 : Int) by have h := HP2.out; rw [Nat.one_pow] at h; exact h)
            clear hP2 hf2 hb5 F4 F5 HPW2 HQx1 HFX1 hsz5
            obtain ⟨V, hV⟩ : ∃ V, V = w5.alloc (.cells #[.bool s2, .slice A2 l2 p2, .slice B2 m2 d2] 61) := ⟨_, rfl⟩
            have HVS := Lib.hid hV.symm
            have HVZ := Lib.hid (show V.heap.size = w5.heap.size + 1 by rw [hV]; simp)
            rw [← hV] at HQx HFX HQy HFY HF5
            have x0 := HQx.out.c0
            have x1 := HQx.out.c1
            have x2 := HQx.out.c2
            have y0 := HQy.out.c0
            have y1 := HQy.out.c1
            have y2 := HQy.out.c2
            have c10 := HF5.out.k0.c0
            have c11 := HF5.out.k0.c1
            rw [hV] at x0 x1 x2 y0 y1 y2 c10 c11
            have KA := (HF5.out.alloc (.cells #[.bool s1, .slice A1 l1 p1, .slice B1 m1 d1, .bool s2, .slice A2 l2 p2, .slice B2 m2 d2] 61)).k0
            have kc0 := KA.c0
            have kc1 := KA.c1
            rw [hV] at kc0 kc1
            clear hV KA
            go_wp2_with fail
            rw [HVS.out]
            have hsa := ((span2 V 125 ⟨s1, A1, l1, p1, B1, m1, d1, N1, D1⟩ ⟨s2, A2, l2, p2, B2, m2, d2, N2, D2⟩ (by decide) (FQ.more HFX.out (by omega)) (FQ.more HFY.out (by omega))).mono (fun e w' ⟨W, hW, h⟩ => HS2.out _ _ e W V w' hW HFX.out.ne HFY.out.ne HR1.out HR2.out h))
            rw [HVZ.out] at hsa
            have HSA := Lib.hid hsa
            have HFT := HF5
            clear hsa
            clear x0 x1 x2 y0 y1 y2 c10 c11 kc0 kc1
            refine HSA.out.mono ?_
            rintro e w11 ⟨he, hb11⟩
            subst he
            rw [← HVZ.out] at hb11
            have F11 := HFT.out.later hb11
            obtain ⟨q1, q2, hr⟩ := F11.res
            have c30 := hr.c0
            have c31 := hr.c1
            have f30 := hr.f0
            have f31 := hr.f1
            have FB := Lib.hid F11
            clear hr F11 hb11
            go_wp2_with fail
            refine bodyPost_ret (v := .tuple #[.agg #[.int .i64 sx, .int .i64 sy], .int .i64 sc]) (by simp [results, Try.results24, c30, c31, go_sem]) rfl ⟨rfl, (FB.out.set _ _).bl⟩
        · have t1 : ¬ (0 : Int) < (k : Int) := by omega
          clear hc
          go_enter Try.func24, Try.ntmps24
          go_wp2_with fail
          refine (HCK.out _).mono ?_
          rintro e w1 ⟨he, hb⟩
          subst he
          have F1 := Fm.of2 hb
          have c10 := F1.k0.c0
          have c11 := F1.k0.c1
          clear hb
          go_wp2_with fail
          refine (HQ1.out _).mono ?_
          rintro e w2 ⟨sq, Aq, lq, pq, Bq, mq, dq, Nq, Dq, he, hfq, ⟨hNq, hDq⟩, hb2⟩
          subst he
          have F2 := F1.later hb2
          rw [hNq, hDq] at hfq
          have HPW1 := Lib.hid (fpow hfq k (by omega) (by omega) (by decide))
          clear hNq hDq hfq F1 hb2 c10 c11
          go_wp2_with fail
          refine HPW1.out.mono ?_
          rintro e w3 ⟨s1, A1, l1, p1, B1, m1, d1, N1, D1, he, hf1, hP1, hb3⟩
          subst he
          have F3 := (F2.later hb3).alloc (.cells #[.bool s1, .slice A1 l1 p1, .slice B1 m1 d1] 61)
          have HP1 := Lib.hid hP1
          have HQx0 := Lib.hid (QB.new w3 s1 (.slice A1 l1 p1) (.slice B1 m1 d1))
          have HFX0 := Lib.hid (FQ.up hf1 (Below.one w3 (.cells #[.bool s1, .slice A1 l1 p1, .slice B1 m1 d1] 61)))
          have c10 := F3.k0.c0
          have c11 := F3.k0.c1
          clear hP1 hf1 hb3 F2 HPW1
          go_wp2_with fail
          refine (HQ2.out _).mono ?_
          rintro e w4 ⟨sr, Ar, lr, pr, Br, mr, dr, Nr, Dr, he, hfr, ⟨hNr, hDr⟩, hb4⟩
          subst he
          have F4 := F3.later hb4
          rw [hNr, hDr] at hfr
          have HPW2 := Lib.hid (fpow hfr k (by omega) (by omega) (by decide))
          have HQx1 := Lib.hid (HQx0.out.below hb4 HQx0.out.lt)
          have HFX1 := Lib.hid (FQ.up HFX0.out hb4)
          clear hNr hDr hfr F3 hb4 c10 c11 HQx0 HFX0
          go_wp2_with fail
          refine HPW2.out.mono ?_
          rintro e w5 ⟨s2, A2, l2, p2, B2, m2, d2, N2, D2, he, hf2, hP2, hb5⟩
          subst he
          have F5 := (F4.later hb5).alloc (.cells #[.bool s2, .slice A2 l2 p2, .slice B2 m2 d2] 61)
          have HP2 := Lib.hid hP2
          have hsz5 : w3.heap.size < w5.heap.size := Nat.lt_of_lt_of_le HQx1.out.lt hb5.size
          have HQx := Lib.hid ((HQx1.out.below hb5 HQx1.out.lt).below (Below.one w5 (.cells #[.bool s2, .slice A2 l2 p2, .slice B2 m2 d2] 61)) hsz5)
          have HFX := Lib.hid (FQ.up (FQ.up HFX1.out hb5) (Below.one w5 (.cells #[.bool s2, .slice A2 l2 p2, .slice B2 m2 d2] 61)))
          have HQy := Lib.hid (QB.new w5 s2 (.slice A2 l2 p2) (.slice B2 m2 d2))
          have HFY := Lib.hid (FQ.up hf2 (Below.one w5 (.cells #[.bool s2, .slice A2 l2 p2, .slice B2 m2 d2] 61)))
          have HF5 := Lib.hid F5
          have HR1 := Lib.hid (show N1 * ((1 : Nat) : Int) = a1 ^ k * (D1 : Int) by have h := HP1.out; rw [Nat.one_pow] at h; exact h)
          have HR2 := Lib.hid (show N2 * ((1 : Nat) : Int) = a2 ^ k * (D2 : Int) by have h := HP2.out; rw [Nat.one_pow] at h; exact h)
          clear hP2 hf2 hb5 F4 F5 HPW2 HQx1 HFX1 hsz5
          obtain ⟨V, hV⟩ : ∃ V, V = w5.alloc (.cells #[.bool s2, .slice A2 l2 p2, .slice B2 m2 d2] 61) := ⟨_, rfl⟩
          have HVS := Lib.hid hV.symm
          have HVZ := Lib.hid (show V.heap.size = w5.heap.size + 1 by rw [hV]; simp)
          rw [← hV] at HQx HFX HQy HFY HF5
          have x0 := HQx.out.c0
          have x1 := HQx.out.c1
          have x2 := HQx.out.c2
          have y0 := HQy.out.c0
          have y1 := HQy.out.c1
          have y2 := HQy.out.c2
          have c10 := HF5.out.k0.c0
          have c11 := HF5.out.k0.c1
          rw [hV] at x0 x1 x2 y0 y1 y2 c10 c11
          have KA := (HF5.out.alloc (.cells #[.bool s1, .slice A1 l1 p1, .slice B1 m1 d1, .bool s2, .slice A2 l2 p2, .slice B2 m2 d2] 61)).k0
          have kc0 := KA.c0
          have kc1 := KA.c1
          rw [hV] at kc0 kc1
          clear hV KA
          go_wp2_with fail
          rw [HVS.out]
          have hsa := ((span2 V 125 ⟨s1, A1, l1, p1, B1, m1, d1, N1, D1⟩ ⟨s2, A2, l2, p2, B2, m2, d2, N2, D2⟩ (by decide) (FQ.more HFX.out (by omega)) (FQ.more HFY.out (by omega))).mono (fun e w' ⟨W, hW, h⟩ => HS2.out _ _ e W V w' hW HFX.out.ne HFY.out.ne HR1.out HR2.out h))
          rw [HVZ.out] at hsa
          have HSA := Lib.hid hsa
          have HFT := HF5
          clear hsa
          clear x0 x1 x2 y0 y1 y2 c10 c11 kc0 kc1
          refine HSA.out.mono ?_
          rintro e w11 ⟨he, hb11⟩
          subst he
          rw [← HVZ.out] at hb11
          have F11 := HFT.out.later hb11
          obtain ⟨q1, q2, hr⟩ := F11.res
          have c30 := hr.c0
          have c31 := hr.c1
          have f30 := hr.f0
          have f31 := hr.f1
          have FB := Lib.hid F11
          clear hr F11 hb11
          go_wp2_with fail
          refine bodyPost_ret (v := .tuple #[.agg #[.int .i64 sx, .int .i64 sy], .int .i64 sc]) (by simp [results, Try.results24, c30, c31, go_sem]) rfl ⟨rfl, (FB.out.set _ _).bl⟩
  · have hR : ivE (powE a k) = .tuple #[.agg #[.int .i64 0, .int .i64 0], .int .i64 (examI [a])] := by unfold powE; rw [if_neg h0]; rfl
    rw [hR]
    clear hR
    unfold ivV at HCK ⊢
    generalize examI [a] = er at *
    have q1 : (er == 0) = false := by simp [h0]
    have q2 : (er != 0) = true := by simp [h0]
    clear h0
    go_enter Try.func24, Try.ntmps24
    go_wp2_with fail
    refine (HCK.out _).mono ?_
    rintro e w1 ⟨he, hb⟩
    subst he
    have F1 := Fm.of2 hb
    have c10 := F1.k0.c0
    have c11 := F1.k0.c1
    clear hb
    obtain ⟨p, q, hr⟩ := F1.res
    have c30 := hr.c0
    have c31 := hr.c1
    have f30 := hr.f0
    have f31 := hr.f1
    clear hr
    have FB := Lib.hid F1
    clear F1
    go_wp2_with fail
    refine bodyPost_ret (v := .tuple #[.agg #[.int .i64 0, .int .i64 0], .int .i64 er]) (by simp [results, Try.results24, c30, c31, go_sem]) rfl ⟨rfl, (FB.out.set _ _).bl⟩
end Go.Proofs.Ytmmgbofhbnflkaa
