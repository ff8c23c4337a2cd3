import Derived.Test.YtmmgbofhbnflkaaIQ13
namespace Go.Proofs.Ytmmgbofhbnflkaa
open Go.RowKit

/-! The reference's Disc. -/
theorem len_pow (m k L : Nat) (h : (dg m).length ≤ L) : (dg (m ^ k)).length ≤ k * L + 1 := by
  induction k with
  | zero => rw [Nat.pow_zero, len_one]; omega
  | succ k ih =>
    rw [Nat.pow_succ]
    have := len_mul (m ^ k) m
    rw [Nat.add_mul, Nat.one_mul]
    omega
theorem sgI_pow (N : Int) (k : Nat) : sgI (decide (N < 0) && decide (k % 2 = 1)) (N.natAbs ^ k) = N ^ k := by
  have key : ∀ (m : Nat) (k : Nat), (-(m : Int)) ^ k = if k % 2 = 1 then -((m ^ k : Nat) : Int) else ((m ^ k : Nat) : Int) := by
    intro m k
    induction k with
    | zero => simp
    | succ k ih =>
      rw [Int.pow_succ, ih]
      by_cases h : k % 2 = 1
      · rw [if_pos h, if_neg (by omega), Int.neg_mul_neg, Nat.pow_succ, Int.natCast_mul]
      · rw [if_neg h, if_pos (by omega), Int.mul_neg, Nat.pow_succ, Int.natCast_mul]
  unfold sgI
  by_cases hn : N < 0
  · have e : N = -(N.natAbs : Int) := by omega
    rw [decide_eq_true hn, Bool.true_and]
    generalize N.natAbs = m at *
    rw [e, key]
    by_cases h : k % 2 = 1 <;> simp [h]
  · have e : N = (N.natAbs : Int) := by omega
    rw [decide_eq_false hn, Bool.false_and]
    generalize N.natAbs = m at *
    rw [e]
    simp
theorem fpow {w : World} {L : Nat} {s : Bool} {vn vd : Value} {N : Int} {D : Nat} (h1 : FQ w L s vn vd N D) (k : Nat) (hk : k ≤ 2000) (hL : k * L + 1 ≤ 512) (hL2 : L ≤ 512) :
    Calls Try.prog 57 #[.agg #[.bool s, vn, vd], .int .i64 (k : Int)] w (FRes w (k * L + 1) fun N' D' => N' * ((D ^ k : Nat) : Int) = N ^ k * (D' : Int)) := by
  obtain ⟨p1, e1, f1⟩ := h1.proper hL2
  have hx := examQ_one p1 e1
  have l1 := len_pow N.natAbs k L h1.ln
  have l2 := len_pow D k L h1.ld
  have hd : D ^ k ≠ 0 := Nat.pos_iff_ne_zero.1 (Nat.pow_pos (by have := h1.ne; omega))
  obtain ⟨N', D', a1, a2, a3, a4, a5, a6⟩ := low_spec (decide (N < 0) && decide (k % 2 = 1)) (N.natAbs ^ k) (D ^ k) hd (by omega) (by omega)
  rw [sgI_pow] at a4
  have h := rQPow_any (frOf N D) vn vd k w f1 hx hk (by show (dg (val (dg N.natAbs) ^ k)).length ≤ 512; rw [val_dg]; omega) (by show (dg (val (dg D) ^ k)).length ≤ 512; rw [val_dg]; omega)
  have hq : lowW ((frOf N D).neg && decide (k % 2 = 1)) (val (frOf N D).num ^ k) (val (frOf N D).den ^ k) = (decide (N' < 0), N'.natAbs, D', 0) := by
    show lowW (decide (N < 0) && decide (k % 2 = 1)) (val (dg N.natAbs) ^ k) (val (dg D) ^ k) = _
    rw [val_dg, val_dg, a1]
  rw [hq, show (frOf N D).neg = s from h1.sg.symm] at h
  exact h.mono fun e w' hr => FRes.of hr a2 a3 (by omega) (by omega) a4
theorem FQ.wroteA {W : World} {g L : Nat} {s : Bool} {vn vd : Value} {N : Int} {D : Nat} (h : FQ W L s vn vd N D) {a : Bool} {u1 u2 : Value} (hq : QB W g a u1 u2) (s' : Bool) (vn' vd' : Value) : FQ (wroteQ W g s' vn' vd') L s vn vd N D := by
  have g5 : W.heap.size ≤ (wroteQ W g s' vn' vd').heap.size := by simp [wroteQ, World.setCell]
  exact ⟨h.sg, Lim.more (Lim.wroteQ (B := W.heap.size) h.num hq s' vn' vd') g5, Lim.more (Lim.wroteQ (B := W.heap.size) h.den hq s' vn' vd') g5, h.ne, h.co, h.ln, h.ld⟩
theorem QB.writeA {W : World} {g : Nat} {neg : Bool} {vn vd : Value} (h : QB W g neg vn vd) (neg' : Bool) (vn' vd' : Value) : QB (wroteQ W g neg' vn' vd') g neg' vn' vd' := h.write neg' vn' vd'
theorem Fm.wrote {w W : World} {x y : Value} {g : Nat} (h : Fm w [(w.heap.size, x, y)] (w.heap.size + 1) W) (hg : w.heap.size + 1 < g) (s : Bool) (u v : Value) : Fm w [(w.heap.size, x, y)] (w.heap.size + 1) (wroteQ W g s u v) := by
  have hne : ∀ t ∈ [(w.heap.size, x, y)], t.1 ≠ g := by intro t ht; simp at ht; subst ht; simp; omega
  exact ((h.over hne hg 0 _).over hne hg 1 _).over hne hg 2 _
/-- A quarter. -/
theorem quarter {N8 N5 N1 a : Int} {D8 D5 D1 : Nat} (h1 : D1 ≠ 0) (h5 : D5 ≠ 0) (hov : N1 * 4 = 1 * (D1 : Int)) (hm : N8 * ((D5 * D1 : Nat) : Int) = N5 * N1 * (D8 : Int)) (hp : N5 * ((1 ^ 2 : Nat) : Int) = a ^ 2 * (D5 : Int)) : N8 * ((4 : Nat) : Int) = a * a * (D8 : Int) := by
  have h := pi_rel (M := 4) (B := 1) h1 hov hm
  have hp' : N5 = a ^ 2 * (D5 : Int) := by simpa using hp
  have e2 : a ^ 2 = a * a := by rw [Int.pow_succ, Int.pow_succ, Int.pow_zero, Int.one_mul]
  rw [hp', e2] at h
  refine Int.eq_of_mul_eq_mul_right (show (D5 : Int) ≠ 0 by omega) ?_
  rw [Int.natCast_mul, Int.mul_one] at h
  have e3 : N8 * ((4 : Nat) : Int) * (D5 : Int) = N8 * ((D5 : Int) * ((4 : Nat) : Int)) := by ac_rfl
  have e4 : a * a * (D8 : Int) * (D5 : Int) = a * a * (D5 : Int) * (D8 : Int) := by ac_rfl
  rw [e3, h, e4]
theorem disc_far {a1 a2 : Int} (h : 3000000000 < a2) : prodsW (a1 * a1, a2 * a2) piL ((4 * piOne : Nat) : Int) = ((0, 0), 7) := by
  have hs : 9000000000000000000 ≤ a2 * a2 := by
    have h1 : (3000000000 : Int) * 3000000000 ≤ a2 * a2 := Int.mul_le_mul (by omega) (by omega) (by omega) (by omega)
    omega
  have hm : a2 * a2 * 3141592653589793239 ≤ maxW (a1 * a1, a2 * a2) piL := by
    unfold maxW piL
    simp only
    omega
  have hd : ((4 * piOne : Nat) : Int) = 4000000000000000000 := rfl
  have hu : 4611686018427387904 < upI (maxW (a1 * a1, a2 * a2) piL) ((4 * piOne : Nat) : Int) := by
    rw [hd]
    generalize maxW (a1 * a1, a2 * a2) piL = M at *
    generalize a2 * a2 = q at *
    unfold upI
    omega
  have hno : okB (upI (maxW (a1 * a1, a2 * a2) piL) ((4 * piOne : Nat) : Int)) = false := by
    unfold okB
    generalize upI (maxW (a1 * a1, a2 * a2) piL) ((4 * piOne : Nat) : Int) = U at *
    simp
    omega
  unfold prodsW spanW
  rw [hno, Bool.and_false]
  rfl

set_option maxRecDepth 100000 in
set_option maxHeartbeats 4000000 in
theorem rDisc_any (a : Int × Int) (w : World) :
    Calls Try.prog 30 #[ivV a] w fun e w' => e = .returned (ivE (discE a)) ∧ Below w.heap.size w w' := by
  have hck := fun W => rcheck_any a W
  have HCK := Lib.hid hck
  clear hck
  by_cases h0 : examI [a] = 0
  · rw [h0] at HCK
    obtain ⟨ho1, ho2, hle⟩ := examI_ok h0 a (by simp)
    by_cases hneg : a.1 < 0
    · have hR : ivE (discE a) = .tuple #[.agg #[.int .i64 0, .int .i64 0], .int .i64 9] := by unfold discE discW; rw [if_pos h0, if_pos hneg]; rfl
      rw [hR]
      clear hR h0 ho1 ho2 hle
      obtain ⟨a1, a2⟩ := a
      unfold ivV at HCK ⊢
      simp only at HCK hneg ⊢
      go_enter Try.func30, Try.ntmps30
      go_wp2_with fail
      refine (HCK.out _).mono ?_
      rintro e w1 ⟨he, hb⟩
      subst he
      have F1 := Fm.of2 hb
      have c10 := F1.k0.c0
      have c11 := F1.k0.c1
      clear hb
      obtain ⟨p, q, hr⟩ := F1.res
      have c30 := hr.c0
      have c31 := hr.c1
      have f30 := hr.f0
      have f31 := hr.f1
      clear hr
      have FB := Lib.hid F1
      clear F1
      go_wp2_with fail
      refine bodyPost_ret (v := .tuple #[.agg #[.int .i64 0, .int .i64 0], .int .i64 9]) (by simp [results, Try.results30, c30, c31, go_sem]) rfl ⟨rfl, (FB.out.set _ _).bl⟩
    · have hq1 := fun W => Quo03_any a.1 (okB_iff.1 ho1) W
      have hq2 := fun W => Quo03_any a.2 (okB_iff.1 ho2) W
      have hov := fun W => over03_any 1 4 (by decide) (by decide) W
      have hres : discE a = prodsW (a.1 * a.1, a.2 * a.2) piL ((4 * piOne : Nat) : Int) := by
        unfold discE discW
        rw [if_pos h0, if_neg hneg]
        by_cases hf : 3000000000 < a.2
        · rw [if_pos hf, disc_far hf]
        · rw [if_neg hf]; rfl
      rw [hres]
      have hsp : ∀ (ys : List FV) (x y : FV) (e : Ending) (V W W' : World), ys.length = 4 → (∀ (k : Nat) (z : FV), ys[k]? = some z → z.ok V 13 ∧ PiP [x, y] k z) → x.D ≠ 0 → y.D ≠ 0 → x.N * ((4 : Nat) : Int) = a.1 * a.1 * (x.D : Int) → y.N * ((4 : Nat) : Int) = a.2 * a.2 * (y.D : Int) → SpPost W ys e W' → e = .returned (ivE (prodsW (a.1 * a.1, a.2 * a.2) piL ((4 * piOne : Nat) : Int))) ∧ Below W.heap.size W W' := by
        intro ys x y e V W W' hl hy e1 e2 e3 e4 h
        exact pi_span (d := 4) (by decide) hl hy e1 e2 e3 e4 h
      obtain ⟨sx, sy, sc, hform⟩ : ∃ x y z, prodsW (a.1 * a.1, a.2 * a.2) piL ((4 * piOne : Nat) : Int) = ((x, y), z) := ⟨_, _, _, rfl⟩
      rw [hform] at hsp ⊢
      have HQ1 := Lib.hid hq1
      have HQ2 := Lib.hid hq2
      have HOV := Lib.hid hov
      have HSP := Lib.hid hsp
      clear hq1 hq2 hov hres hsp hform h0 ho1 ho2 hle
      obtain ⟨a1, a2⟩ := a
      unfold ivE ivV at HSP ⊢
      unfold ivV at HCK
      simp only at HCK HQ1 HQ2 HSP hneg ⊢
      go_enter Try.func30, Try.ntmps30
      go_wp2_with fail
      refine (HCK.out _).mono ?_
      rintro e w1 ⟨he, hb⟩
      subst he
      have F1 := Fm.of2 hb
      have c10 := F1.k0.c0
      have c11 := F1.k0.c1
      clear hb
      go_wp2_with fail
      refine (HQ1.out _).mono ?_
      rintro e w2 ⟨sq, Aq, lq, pq, Bq, mq, dq, Nq, Dq, he, hfq, ⟨hNq, hDq⟩, hb2⟩
      subst he
      have F2 := F1.later hb2
      rw [hNq, hDq] at hfq
      have HPW1 := Lib.hid (fpow hfq 2 (by decide) (by decide) (by decide))
      clear hNq hDq hfq F1 hb2 c10 c11
      go_wp2_with fail
      refine HPW1.out.mono ?_
      rintro e w3 ⟨s1, A1, l1, p1, B1, m1, d1, N1, D1, he, hf1, hP1, hb3⟩
      subst he
      have F3 := (F2.later hb3).alloc (.cells #[.bool s1, .slice A1 l1 p1, .slice B1 m1 d1] 61)
      have HP1 := Lib.hid hP1
      have HF5D := Lib.hid hf1.ne
      have HQx0 := Lib.hid (QB.new w3 s1 (.slice A1 l1 p1) (.slice B1 m1 d1))
      have HFX0 := Lib.hid (FQ.up hf1 (Below.one w3 (.cells #[.bool s1, .slice A1 l1 p1, .slice B1 m1 d1] 61)))
      have hsz3 : w.heap.size + 1 < w3.heap.size := by have h1 := (F2.later hb3).res; obtain ⟨_, _, h2⟩ := h1; exact h2.lt
      have c10 := F3.k0.c0
      have c11 := F3.k0.c1
      clear hP1 hf1 hb3 F2 HPW1
      go_wp2_with fail
      refine (HQ2.out _).mono ?_
      rintro e w4 ⟨sr, Ar, lr, pr, Br, mr, dr, Nr, Dr, he, hfr, ⟨hNr, hDr⟩, hb4⟩
      subst he
      have F4 := F3.later hb4
      rw [hNr, hDr] at hfr
      have HPW2 := Lib.hid (fpow hfr 2 (by decide) (by decide) (by decide))
      have HQx1 := Lib.hid (HQx0.out.below hb4 HQx0.out.lt)
      have HFX1 := Lib.hid (FQ.up HFX0.out hb4)
      clear hNr hDr hfr F3 hb4 c10 c11 HQx0 HFX0
      go_wp2_with fail
      refine HPW2.out.mono ?_
      rintro e w5 ⟨s2, A2, l2, p2, B2, m2, d2, N2, D2, he, hf2, hP2, hb5⟩
      subst he
      have F5 := (F4.later hb5).alloc (.cells #[.bool s2, .slice A2 l2 p2, .slice B2 m2 d2] 61)
      have HP2 := Lib.hid hP2
      have hsz5 : w3.heap.size < w5.heap.size := Nat.lt_of_lt_of_le HQx1.out.lt hb5.size
      have HQx := Lib.hid ((HQx1.out.below hb5 HQx1.out.lt).below (Below.one w5 (.cells #[.bool s2, .slice A2 l2 p2, .slice B2 m2 d2] 61)) hsz5)
      have HFXx := Lib.hid (FQ.up (FQ.up HFX1.out hb5) (Below.one w5 (.cells #[.bool s2, .slice A2 l2 p2, .slice B2 m2 d2] 61)))
      have HQy0 := Lib.hid (QB.new w5 s2 (.slice A2 l2 p2) (.slice B2 m2 d2))
      have HFXy0 := Lib.hid (FQ.up hf2 (Below.one w5 (.cells #[.bool s2, .slice A2 l2 p2, .slice B2 m2 d2] 61)))
      have HF5 := Lib.hid F5
      have HS3 := Lib.hid hsz3
      have HS5 := Lib.hid hsz5
      clear hP2 hf2 hb5 F4 F5 HPW2 HQx1 HFX1 hsz3 hsz5
      go_wp2_with fail
      generalize w5.alloc (.cells #[.bool s2, .slice A2 l2 p2, .slice B2 m2 d2] 61) = V7 at *
      refine wp_region_noPanic ?_
      refine wp_region_any (by kernel_rfl) ?_
      change wpAny _ _ _ _ _ _ _ V7.drew
      have hq0x : QB V7.drew w3.heap.size s1 (.slice A1 l1 p1) (.slice B1 m1 d1) := HQx.out
      have HFx := Lib.hid (FQ.up HFXx.out (Below.d0 V7))
      have HBDx := Lib.hid (Below.d0 V7)
      have hl0x := hq0x.c0
      have hl1x := hq0x.c1
      have hl2x := hq0x.c2
      generalize V7.drew = Vx at *
      refine wpAny_ready (rs := [0, 1]) (by decide +kernel) (by simp) ?_
      refine AllReady.cons (o := ⟨some 37, _, _, _, _, _⟩) rfl (fun K hK => ?_) (AllReady.cons (o := ⟨some 38, _, _, _, _, _⟩) rfl (fun K hK => ?_) AllReady.nil)
      · go_simp
        refine hK _ _ ?_; clear hK K
        (try simp only [Act.put, List.setIfInBounds_toArray, List.set_cons_zero, List.set_cons_succ])
        refine wpAny_ready (rs := [1]) (by decide +kernel) (by simp) (AllReady.cons (o := ⟨some 38, _, _, _, _, _⟩) rfl (fun K hK => ?_) AllReady.nil)
        go_simp
        refine (HOV.out _).mono ?_
        rintro e w1x ⟨sox, Aox, lox, pox, Box, mox, dox, Nox, Dox, he, hfox, hPox, hbox⟩
        subst he
        have HPOx := Lib.hid hPox
        clear hPox
        have hq1x := hq0x.below hbox hq0x.lt
        have ho0x := hq1x.c0
        have ho1x := hq1x.c1
        have ho2x := hq1x.c2
        have HFUx := Lib.hid (fmul (FQ.up HFx.out hbox) hfox (by decide))
        refine hK _ _ ?_; clear hK K
        (try simp only [Act.put, List.setIfInBounds_toArray, List.set_cons_zero, List.set_cons_succ])
        refine wpAny_ready (rs := [2]) (by decide +kernel) (by simp) (AllReady.cons (o := ⟨some 39, _, _, _, _, _⟩) rfl (fun K hK => ?_) AllReady.nil)
        go_simp
        refine HFUx.out.mono ?_
        rintro e w2x ⟨sx', Ax, lx, px, Bx, mx, dx, Nx, Dx, he, hfx, hPx, hbmx⟩
        subst he
        have hq2x := hq1x.below hbmx hq1x.lt
        have r0x := hq2x.c0
        have r1x := hq2x.c1
        have r2x := hq2x.c2
        have r3x := hq2x.fr 0
        have r4x := hq2x.fr 1
        have r5x := hq2x.fr 2
        refine hK _ _ ?_; clear hK K
        (try simp only [Act.put, List.setIfInBounds_toArray, List.set_cons_zero, List.set_cons_succ])
        refine wpAny_take (i := 3) (oi := ⟨some 36, _, _, _, _, _⟩) (v := .tuple #[.agg #[.bool sx', .slice Ax lx px, .slice Bx mx dx], .int .i64 0]) rfl (by kernel_rfl) (by decide +kernel) (by decide +kernel) (fun _ _ _ h => h) (Or.inl ⟨by rfl, fun w => by go_simp⟩) ?_
        (try simp only [Act.put, List.setIfInBounds_toArray, List.set_cons_zero, List.set_cons_succ])
        refine wpAny_take (i := 4) (oi := ⟨some 40, _, _, _, _, _⟩) (v := .agg #[.bool sx', .slice Ax lx px, .slice Bx mx dx]) rfl (by kernel_rfl) (by decide +kernel) (by decide +kernel) (fun _ _ _ h => h) (Or.inl ⟨by rfl, fun w => by go_simp⟩) ?_
        (try simp only [Act.put, List.setIfInBounds_toArray, List.set_cons_zero, List.set_cons_succ])
        refine wpAny_take (i := 5) (oi := ⟨some 41, _, _, _, _, _⟩) (v := .int .i64 0) rfl (by kernel_rfl) (by decide +kernel) (by decide +kernel) (fun _ _ _ h => h) (Or.inl ⟨by rfl, fun w => by go_simp⟩) ?_
        (try simp only [Act.put, List.setIfInBounds_toArray, List.set_cons_zero, List.set_cons_succ])
        refine wpAny_ready (rs := [6]) (by decide +kernel) (by simp) (AllReady.cons (o := ⟨none, _, _, _, _, _⟩) rfl (fun K hK => ?_) AllReady.nil)
        go_simp
        refine hK _ _ ?_; clear hK K
        (try simp only [Act.put, List.setIfInBounds_toArray, List.set_cons_zero, List.set_cons_succ])
        refine wpAny_done (by decide +kernel) ?_ _
        refine NoPanic.normal ?_
        have hbm7 := Below.after (Below.after HBDx.out hbox) hbmx
        have hqw := hq2x.writeA sx' (.slice Ax lx px) (.slice Bx mx dx)
        have hfw := hfx.wroteA hq2x sx' (.slice Ax lx px) (.slice Bx mx dx)
        have hF8 := (HF5.out.later hbm7).wrote HS3.out sx' (.slice Ax lx px) (.slice Bx mx dx)
        have hqy2 := (heap_wroteQ sx' (.slice Ax lx px) (.slice Bx mx dx) (Nat.ne_of_gt HS5.out)).trans (HQy0.out.below hbm7 HQy0.out.lt)
        have hfy2 := FQ.wroteA (FQ.up HFXy0.out hbm7) hq2x sx' (.slice Ax lx px) (.slice Bx mx dx)
        have HR1 := Lib.hid (quarter hfox.ne HF5D.out HPOx.out hPx HP1.out)
        simp only [wroteQ] at hqw hfw hF8 hqy2 hfy2
        generalize ((w2x.setCell ⟨w3.heap.size, 0, none⟩ _).setCell ⟨w3.heap.size, 1, none⟩ _).setCell ⟨w3.heap.size, 2, none⟩ _ = V8 at *
        have HQA := Lib.hid (show QB V8 w3.heap.size sx' (.slice Ax lx px) (.slice Bx mx dx) from hqw)
        have HFA := Lib.hid hfw
        have HF8 := Lib.hid hF8
        have HQy := Lib.hid (show QB V8 w5.heap.size s2 (.slice A2 l2 p2) (.slice B2 m2 d2) from hqy2)
        have HFXy := Lib.hid hfy2
        clear hqw hfw hF8 hqy2 hfy2 hbm7 hq2x hq1x hq0x hfx hfox hPx HFUx HPOx hbox hbmx r0x r1x r2x r3x r4x r5x ho0x ho1x ho2x hl0x hl1x hl2x HFx HBDx HFXx HQx
        go_wp2_with fail
        refine wp_region_noPanic ?_
        refine wp_region_any (by kernel_rfl) ?_
        change wpAny _ _ _ _ _ _ _ V8.drew
        have hq0y : QB V8.drew w5.heap.size s2 (.slice A2 l2 p2) (.slice B2 m2 d2) := HQy.out
        have HFy := Lib.hid (FQ.up HFXy.out (Below.d0 V8))
        have HBDy := Lib.hid (Below.d0 V8)
        have hl0y := hq0y.c0
        have hl1y := hq0y.c1
        have hl2y := hq0y.c2
        generalize V8.drew = Vy at *
        refine wpAny_ready (rs := [0, 1]) (by decide +kernel) (by simp) ?_
        refine AllReady.cons (o := ⟨some 43, _, _, _, _, _⟩) rfl (fun K hK => ?_) (AllReady.cons (o := ⟨some 44, _, _, _, _, _⟩) rfl (fun K hK => ?_) AllReady.nil)
        · go_simp
          refine hK _ _ ?_; clear hK K
          (try simp only [Act.put, List.setIfInBounds_toArray, List.set_cons_zero, List.set_cons_succ])
          refine wpAny_ready (rs := [1]) (by decide +kernel) (by simp) (AllReady.cons (o := ⟨some 44, _, _, _, _, _⟩) rfl (fun K hK => ?_) AllReady.nil)
          go_simp
          refine (HOV.out _).mono ?_
          rintro e w1y ⟨soy, Aoy, loy, poy, Boy, moy, doy, Noy, Doy, he, hfoy, hPoy, hboy⟩
          subst he
          have HPOy := Lib.hid hPoy
          clear hPoy
          have hq1y := hq0y.below hboy hq0y.lt
          have ho0y := hq1y.c0
          have ho1y := hq1y.c1
          have ho2y := hq1y.c2
          have HFUy := Lib.hid (fmul (FQ.up HFy.out hboy) hfoy (by decide))
          refine hK _ _ ?_; clear hK K
          (try simp only [Act.put, List.setIfInBounds_toArray, List.set_cons_zero, List.set_cons_succ])
          refine wpAny_ready (rs := [2]) (by decide +kernel) (by simp) (AllReady.cons (o := ⟨some 45, _, _, _, _, _⟩) rfl (fun K hK => ?_) AllReady.nil)
          go_simp
          refine HFUy.out.mono ?_
          rintro e w2y ⟨sy', Ay, ly, py, By, my, dy, Ny, Dy, he, hfy, hPy, hbmy⟩
          subst he
          have hq2y := hq1y.below hbmy hq1y.lt
          have r0y := hq2y.c0
          have r1y := hq2y.c1
          have r2y := hq2y.c2
          have r3y := hq2y.fr 0
          have r4y := hq2y.fr 1
          have r5y := hq2y.fr 2
          refine hK _ _ ?_; clear hK K
          (try simp only [Act.put, List.setIfInBounds_toArray, List.set_cons_zero, List.set_cons_succ])
          refine wpAny_take (i := 3) (oi := ⟨some 42, _, _, _, _, _⟩) (v := .tuple #[.agg #[.bool sy', .slice Ay ly py, .slice By my dy], .int .i64 0]) rfl (by kernel_rfl) (by decide +kernel) (by decide +kernel) (fun _ _ _ h => h) (Or.inl ⟨by rfl, fun w => by go_simp⟩) ?_
          (try simp only [Act.put, List.setIfInBounds_toArray, List.set_cons_zero, List.set_cons_succ])
          refine wpAny_take (i := 4) (oi := ⟨some 46, _, _, _, _, _⟩) (v := .agg #[.bool sy', .slice Ay ly py, .slice By my dy]) rfl (by kernel_rfl) (by decide +kernel) (by decide +kernel) (fun _ _ _ h => h) (Or.inl ⟨by rfl, fun w => by go_simp⟩) ?_
          (try simp only [Act.put, List.setIfInBounds_toArray, List.set_cons_zero, List.set_cons_succ])
          refine wpAny_take (i := 5) (oi := ⟨some 47, _, _, _, _, _⟩) (v := .int .i64 0) rfl (by kernel_rfl) (by decide +kernel) (by decide +kernel) (fun _ _ _ h => h) (Or.inl ⟨by rfl, fun w => by go_simp⟩) ?_
          (try simp only [Act.put, List.setIfInBounds_toArray, List.set_cons_zero, List.set_cons_succ])
          refine wpAny_ready (rs := [6]) (by decide +kernel) (by simp) (AllReady.cons (o := ⟨none, _, _, _, _, _⟩) rfl (fun K hK => ?_) AllReady.nil)
          go_simp
          refine hK _ _ ?_; clear hK K
          (try simp only [Act.put, List.setIfInBounds_toArray, List.set_cons_zero, List.set_cons_succ])
          refine wpAny_done (by decide +kernel) ?_ _
          refine NoPanic.normal ?_
          have hbm8 := Below.after (Below.after HBDy.out hboy) hbmy
          have hqw := hq2y.writeA sy' (.slice Ay ly py) (.slice By my dy)
          have hfw := hfy.wroteA hq2y sy' (.slice Ay ly py) (.slice By my dy)
          have hF9 := (HF8.out.later hbm8).wrote (Nat.lt_trans HS3.out HS5.out) sy' (.slice Ay ly py) (.slice By my dy)
          have hqx2 := (heap_wroteQ sy' (.slice Ay ly py) (.slice By my dy) (Nat.ne_of_lt HS5.out)).trans (HQA.out.below hbm8 HQA.out.lt)
          have hfx2 := FQ.wroteA (FQ.up HFA.out hbm8) hq2y sy' (.slice Ay ly py) (.slice By my dy)
          have HR2 := Lib.hid (quarter hfoy.ne HFXy.out.ne HPOy.out hPy HP2.out)
          simp only [wroteQ] at hqw hfw hF9 hqx2 hfx2
          generalize ((w2y.setCell ⟨w5.heap.size, 0, none⟩ _).setCell ⟨w5.heap.size, 1, none⟩ _).setCell ⟨w5.heap.size, 2, none⟩ _ = V9 at *
          have g0 := (show QB V9 w3.heap.size sx' (.slice Ax lx px) (.slice Bx mx dx) from hqx2).c0
          have g1 := (show QB V9 w3.heap.size sx' (.slice Ax lx px) (.slice Bx mx dx) from hqx2).c1
          have g2 := (show QB V9 w3.heap.size sx' (.slice Ax lx px) (.slice Bx mx dx) from hqx2).c2
          have k0 := (show QB V9 w5.heap.size sy' (.slice Ay ly py) (.slice By my dy) from hqw).c0
          have k1 := (show QB V9 w5.heap.size sy' (.slice Ay ly py) (.slice By my dy) from hqw).c1
          have k2 := (show QB V9 w5.heap.size sy' (.slice Ay ly py) (.slice By my dy) from hqw).c2
          have HPI := Lib.hid (pis2 V9 9 ⟨sx', Ax, lx, px, Bx, mx, dx, Nx, Dx⟩ ⟨sy', Ay, ly, py, By, my, dy, Ny, Dy⟩ (by decide) hfx2 hfw)
          have HDX := Lib.hid hfx2.ne
          have HDY := Lib.hid hfw.ne
          have HF9 := Lib.hid hF9
          clear hqw hfw hF9 hqx2 hfx2 hbm8 hq2y hq1y hq0y hfy hfoy hPy HFUy HPOy hboy hbmy r0y r1y r2y r3y r4y r5y ho0y ho1y ho2y hl0y hl1y hl2y HFy HBDy HFXy HQy HQA HFA HF8
          go_wp2_with fail
          refine HPI.out.mono ?_
          rintro e w10 ⟨g, cap, ys, he, hl, hg, hat, hb10⟩
          subst he
          have F10 := HF9.out.later hb10
          have HSA := Lib.hid ((span_of (cap := cap) (by decide) hl hg (fun k z hz => ⟨(hat k z hz).1, (hat k z hz).2.1⟩)).mono (fun e w' h => HSP.out ys _ _ e w10 w10 w' hl (fun k z hz => (hat k z hz).2) HDX.out HDY.out HR1.out HR2.out h))
          have HFT := Lib.hid F10
          clear hl hg hat F10 hb10 g0 g1 g2 k0 k1 k2 HPI
          go_wp2_with fail
          refine HSA.out.mono ?_
          rintro e w11 ⟨he, hb11⟩
          subst he
          have F11 := HFT.out.later hb11
          obtain ⟨q1, q2, hr⟩ := F11.res
          have c30 := hr.c0
          have c31 := hr.c1
          have f30 := hr.f0
          have f31 := hr.f1
          have FB := Lib.hid F11
          clear hr F11 hb11
          go_wp2_with fail
          refine bodyPost_ret (v := .tuple #[.agg #[.int .i64 sx, .int .i64 sy], .int .i64 sc]) (by simp [results, Try.results30, c30, c31, go_sem]) rfl ⟨rfl, (FB.out.set _ _).bl⟩
        · go_simp
          refine (HOV.out _).mono ?_
          rintro e w1y ⟨soy, Aoy, loy, poy, Boy, moy, doy, Noy, Doy, he, hfoy, hPoy, hboy⟩
          subst he
          have HPOy := Lib.hid hPoy
          clear hPoy
          have hq1y := hq0y.below hboy hq0y.lt
          have ho0y := hq1y.c0
          have ho1y := hq1y.c1
          have ho2y := hq1y.c2
          have HFUy := Lib.hid (fmul (FQ.up HFy.out hboy) hfoy (by decide))
          refine hK _ _ ?_; clear hK K
          (try simp only [Act.put, List.setIfInBounds_toArray, List.set_cons_zero, List.set_cons_succ])
          refine wpAny_ready (rs := [0]) (by decide +kernel) (by simp) (AllReady.cons (o := ⟨some 43, _, _, _, _, _⟩) rfl (fun K hK => ?_) AllReady.nil)
          go_simp
          refine hK _ _ ?_; clear hK K
          (try simp only [Act.put, List.setIfInBounds_toArray, List.set_cons_zero, List.set_cons_succ])
          refine wpAny_ready (rs := [2]) (by decide +kernel) (by simp) (AllReady.cons (o := ⟨some 45, _, _, _, _, _⟩) rfl (fun K hK => ?_) AllReady.nil)
          go_simp
          refine HFUy.out.mono ?_
          rintro e w2y ⟨sy', Ay, ly, py, By, my, dy, Ny, Dy, he, hfy, hPy, hbmy⟩
          subst he
          have hq2y := hq1y.below hbmy hq1y.lt
          have r0y := hq2y.c0
          have r1y := hq2y.c1
          have r2y := hq2y.c2
          have r3y := hq2y.fr 0
          have r4y := hq2y.fr 1
          have r5y := hq2y.fr 2
          refine hK _ _ ?_; clear hK K
          (try simp only [Act.put, List.setIfInBounds_toArray, List.set_cons_zero, List.set_cons_succ])
          refine wpAny_take (i := 3) (oi := ⟨some 42, _, _, _, _, _⟩) (v := .tuple #[.agg #[.bool sy', .slice Ay ly py, .slice By my dy], .int .i64 0]) rfl (by kernel_rfl) (by decide +kernel) (by decide +kernel) (fun _ _ _ h => h) (Or.inl ⟨by rfl, fun w => by go_simp⟩) ?_
          (try simp only [Act.put, List.setIfInBounds_toArray, List.set_cons_zero, List.set_cons_succ])
          refine wpAny_take (i := 4) (oi := ⟨some 46, _, _, _, _, _⟩) (v := .agg #[.bool sy', .slice Ay ly py, .slice By my dy]) rfl (by kernel_rfl) (by decide +kernel) (by decide +kernel) (fun _ _ _ h => h) (Or.inl ⟨by rfl, fun w => by go_simp⟩) ?_
          (try simp only [Act.put, List.setIfInBounds_toArray, List.set_cons_zero, List.set_cons_succ])
          refine wpAny_take (i := 5) (oi := ⟨some 47, _, _, _, _, _⟩) (v := .int .i64 0) rfl (by kernel_rfl) (by decide +kernel) (by decide +kernel) (fun _ _ _ h => h) (Or.inl ⟨by rfl, fun w => by go_simp⟩) ?_
          (try simp only [Act.put, List.setIfInBounds_toArray, List.set_cons_zero, List.set_cons_succ])
          refine wpAny_ready (rs := [6]) (by decide +kernel) (by simp) (AllReady.cons (o := ⟨none, _, _, _, _, _⟩) rfl (fun K hK => ?_) AllReady.nil)
          go_simp
          refine hK _ _ ?_; clear hK K
          (try simp only [Act.put, List.setIfInBounds_toArray, List.set_cons_zero, List.set_cons_succ])
          refine wpAny_done (by decide +kernel) ?_ _
          refine NoPanic.normal ?_
          have hbm8 := Below.after (Below.after HBDy.out hboy) hbmy
          have hqw := hq2y.writeA sy' (.slice Ay ly py) (.slice By my dy)
          have hfw := hfy.wroteA hq2y sy' (.slice Ay ly py) (.slice By my dy)
          have hF9 := (HF8.out.later hbm8).wrote (Nat.lt_trans HS3.out HS5.out) sy' (.slice Ay ly py) (.slice By my dy)
          have hqx2 := (heap_wroteQ sy' (.slice Ay ly py) (.slice By my dy) (Nat.ne_of_lt HS5.out)).trans (HQA.out.below hbm8 HQA.out.lt)
          have hfx2 := FQ.wroteA (FQ.up HFA.out hbm8) hq2y sy' (.slice Ay ly py) (.slice By my dy)
          have HR2 := Lib.hid (quarter hfoy.ne HFXy.out.ne HPOy.out hPy HP2.out)
          simp only [wroteQ] at hqw hfw hF9 hqx2 hfx2
          generalize ((w2y.setCell ⟨w5.heap.size, 0, none⟩ _).setCell ⟨w5.heap.size, 1, none⟩ _).setCell ⟨w5.heap.size, 2, none⟩ _ = V9 at *
          have g0 := (show QB V9 w3.heap.size sx' (.slice Ax lx px) (.slice Bx mx dx) from hqx2).c0
          have g1 := (show QB V9 w3.heap.size sx' (.slice Ax lx px) (.slice Bx mx dx) from hqx2).c1
          have g2 := (show QB V9 w3.heap.size sx' (.slice Ax lx px) (.slice Bx mx dx) from hqx2).c2
          have k0 := (show QB V9 w5.heap.size sy' (.slice Ay ly py) (.slice By my dy) from hqw).c0
          have k1 := (show QB V9 w5.heap.size sy' (.slice Ay ly py) (.slice By my dy) from hqw).c1
          have k2 := (show QB V9 w5.heap.size sy' (.slice Ay ly py) (.slice By my dy) from hqw).c2
          have HPI := Lib.hid (pis2 V9 9 ⟨sx', Ax, lx, px, Bx, mx, dx, Nx, Dx⟩ ⟨sy', Ay, ly, py, By, my, dy, Ny, Dy⟩ (by decide) hfx2 hfw)
          have HDX := Lib.hid hfx2.ne
          have HDY := Lib.hid hfw.ne
          have HF9 := Lib.hid hF9
          clear hqw hfw hF9 hqx2 hfx2 hbm8 hq2y hq1y hq0y hfy hfoy hPy HFUy HPOy hboy hbmy r0y r1y r2y r3y r4y r5y ho0y ho1y ho2y hl0y hl1y hl2y HFy HBDy HFXy HQy HQA HFA HF8
          go_wp2_with fail
          refine HPI.out.mono ?_
          rintro e w10 ⟨g, cap, ys, he, hl, hg, hat, hb10⟩
          subst he
          have F10 := HF9.out.later hb10
          have HSA := Lib.hid ((span_of (cap := cap) (by decide) hl hg (fun k z hz => ⟨(hat k z hz).1, (hat k z hz).2.1⟩)).mono (fun e w' h => HSP.out ys _ _ e w10 w10 w' hl (fun k z hz => (hat k z hz).2) HDX.out HDY.out HR1.out HR2.out h))
          have HFT := Lib.hid F10
          clear hl hg hat F10 hb10 g0 g1 g2 k0 k1 k2 HPI
          go_wp2_with fail
          refine HSA.out.mono ?_
          rintro e w11 ⟨he, hb11⟩
          subst he
          have F11 := HFT.out.later hb11
          obtain ⟨q1, q2, hr⟩ := F11.res
          have c30 := hr.c0
          have c31 := hr.c1
          have f30 := hr.f0
          have f31 := hr.f1
          have FB := Lib.hid F11
          clear hr F11 hb11
          go_wp2_with fail
          refine bodyPost_ret (v := .tuple #[.agg #[.int .i64 sx, .int .i64 sy], .int .i64 sc]) (by simp [results, Try.results30, c30, c31, go_sem]) rfl ⟨rfl, (FB.out.set _ _).bl⟩
      · go_simp
        refine (HOV.out _).mono ?_
        rintro e w1x ⟨sox, Aox, lox, pox, Box, mox, dox, Nox, Dox, he, hfox, hPox, hbox⟩
        subst he
        have HPOx := Lib.hid hPox
        clear hPox
        have hq1x := hq0x.below hbox hq0x.lt
        have ho0x := hq1x.c0
        have ho1x := hq1x.c1
        have ho2x := hq1x.c2
        have HFUx := Lib.hid (fmul (FQ.up HFx.out hbox) hfox (by decide))
        refine hK _ _ ?_; clear hK K
        (try simp only [Act.put, List.setIfInBounds_toArray, List.set_cons_zero, List.set_cons_succ])
        refine wpAny_ready (rs := [0]) (by decide +kernel) (by simp) (AllReady.cons (o := ⟨some 37, _, _, _, _, _⟩) rfl (fun K hK => ?_) AllReady.nil)
        go_simp
        refine hK _ _ ?_; clear hK K
        (try simp only [Act.put, List.setIfInBounds_toArray, List.set_cons_zero, List.set_cons_succ])
        refine wpAny_ready (rs := [2]) (by decide +kernel) (by simp) (AllReady.cons (o := ⟨some 39, _, _, _, _, _⟩) rfl (fun K hK => ?_) AllReady.nil)
        go_simp
        refine HFUx.out.mono ?_
        rintro e w2x ⟨sx', Ax, lx, px, Bx, mx, dx, Nx, Dx, he, hfx, hPx, hbmx⟩
        subst he
        have hq2x := hq1x.below hbmx hq1x.lt
        have r0x := hq2x.c0
        have r1x := hq2x.c1
        have r2x := hq2x.c2
        have r3x := hq2x.fr 0
        have r4x := hq2x.fr 1
        have r5x := hq2x.fr 2
        refine hK _ _ ?_; clear hK K
        (try simp only [Act.put, List.setIfInBounds_toArray, List.set_cons_zero, List.set_cons_succ])
        refine wpAny_take (i := 3) (oi := ⟨some 36, _, _, _, _, _⟩) (v := .tuple #[.agg #[.bool sx', .slice Ax lx px, .slice Bx mx dx], .int .i64 0]) rfl (by kernel_rfl) (by decide +kernel) (by decide +kernel) (fun _ _ _ h => h) (Or.inl ⟨by rfl, fun w => by go_simp⟩) ?_
        (try simp only [Act.put, List.setIfInBounds_toArray, List.set_cons_zero, List.set_cons_succ])
        refine wpAny_take (i := 4) (oi := ⟨some 40, _, _, _, _, _⟩) (v := .agg #[.bool sx', .slice Ax lx px, .slice Bx mx dx]) rfl (by kernel_rfl) (by decide +kernel) (by decide +kernel) (fun _ _ _ h => h) (Or.inl ⟨by rfl, fun w => by go_simp⟩) ?_
        (try simp only [Act.put, List.setIfInBounds_toArray, List.set_cons_zero, List.set_cons_succ])
        refine wpAny_take (i := 5) (oi := ⟨some 41, _, _, _, _, _⟩) (v := .int .i64 0) rfl (by kernel_rfl) (by decide +kernel) (by decide +kernel) (fun _ _ _ h => h) (Or.inl ⟨by rfl, fun w => by go_simp⟩) ?_
        (try simp only [Act.put, List.setIfInBounds_toArray, List.set_cons_zero, List.set_cons_succ])
        refine wpAny_ready (rs := [6]) (by decide +kernel) (by simp) (AllReady.cons (o := ⟨none, _, _, _, _, _⟩) rfl (fun K hK => ?_) AllReady.nil)
        go_simp
        refine hK _ _ ?_; clear hK K
        (try simp only [Act.put, List.setIfInBounds_toArray, List.set_cons_zero, List.set_cons_succ])
        refine wpAny_done (by decide +kernel) ?_ _
        refine NoPanic.normal ?_
        have hbm7 := Below.after (Below.after HBDx.out hbox) hbmx
        have hqw := hq2x.writeA sx' (.slice Ax lx px) (.slice Bx mx dx)
        have hfw := hfx.wroteA hq2x sx' (.slice Ax lx px) (.slice Bx mx dx)
        have hF8 := (HF5.out.later hbm7).wrote HS3.out sx' (.slice Ax lx px) (.slice Bx mx dx)
        have hqy2 := (heap_wroteQ sx' (.slice Ax lx px) (.slice Bx mx dx) (Nat.ne_of_gt HS5.out)).trans (HQy0.out.below hbm7 HQy0.out.lt)
        have hfy2 := FQ.wroteA (FQ.up HFXy0.out hbm7) hq2x sx' (.slice Ax lx px) (.slice Bx mx dx)
        have HR1 := Lib.hid (quarter hfox.ne HF5D.out HPOx.out hPx HP1.out)
        simp only [wroteQ] at hqw hfw hF8 hqy2 hfy2
        generalize ((w2x.setCell ⟨w3.heap.size, 0, none⟩ _).setCell ⟨w3.heap.size, 1, none⟩ _).setCell ⟨w3.heap.size, 2, none⟩ _ = V8 at *
        have HQA := Lib.hid (show QB V8 w3.heap.size sx' (.slice Ax lx px) (.slice Bx mx dx) from hqw)
        have HFA := Lib.hid hfw
        have HF8 := Lib.hid hF8
        have HQy := Lib.hid (show QB V8 w5.heap.size s2 (.slice A2 l2 p2) (.slice B2 m2 d2) from hqy2)
        have HFXy := Lib.hid hfy2
        clear hqw hfw hF8 hqy2 hfy2 hbm7 hq2x hq1x hq0x hfx hfox hPx HFUx HPOx hbox hbmx r0x r1x r2x r3x r4x r5x ho0x ho1x ho2x hl0x hl1x hl2x HFx HBDx HFXx HQx
        go_wp2_with fail
        refine wp_region_noPanic ?_
        refine wp_region_any (by kernel_rfl) ?_
        change wpAny _ _ _ _ _ _ _ V8.drew
        have hq0y : QB V8.drew w5.heap.size s2 (.slice A2 l2 p2) (.slice B2 m2 d2) := HQy.out
        have HFy := Lib.hid (FQ.up HFXy.out (Below.d0 V8))
        have HBDy := Lib.hid (Below.d0 V8)
        have hl0y := hq0y.c0
        have hl1y := hq0y.c1
        have hl2y := hq0y.c2
        generalize V8.drew = Vy at *
        refine wpAny_ready (rs := [0, 1]) (by decide +kernel) (by simp) ?_
        refine AllReady.cons (o := ⟨some 43, _, _, _, _, _⟩) rfl (fun K hK => ?_) (AllReady.cons (o := ⟨some 44, _, _, _, _, _⟩) rfl (fun K hK => ?_) AllReady.nil)
        · go_simp
          refine hK _ _ ?_; clear hK K
          (try simp only [Act.put, List.setIfInBounds_toArray, List.set_cons_zero, List.set_cons_succ])
          refine wpAny_ready (rs := [1]) (by decide +kernel) (by simp) (AllReady.cons (o := ⟨some 44, _, _, _, _, _⟩) rfl (fun K hK => ?_) AllReady.nil)
          go_simp
          refine (HOV.out _).mono ?_
          rintro e w1y ⟨soy, Aoy, loy, poy, Boy, moy, doy, Noy, Doy, he, hfoy, hPoy, hboy⟩
          subst he
          have HPOy := Lib.hid hPoy
          clear hPoy
          have hq1y := hq0y.below hboy hq0y.lt
          have ho0y := hq1y.c0
          have ho1y := hq1y.c1
          have ho2y := hq1y.c2
          have HFUy := Lib.hid (fmul (FQ.up HFy.out hboy) hfoy (by decide))
          refine hK _ _ ?_; clear hK K
          (try simp only [Act.put, List.setIfInBounds_toArray, List.set_cons_zero, List.set_cons_succ])
          refine wpAny_ready (rs := [2]) (by decide +kernel) (by simp) (AllReady.cons (o := ⟨some 45, _, _, _, _, _⟩) rfl (fun K hK => ?_) AllReady.nil)
          go_simp
          refine HFUy.out.mono ?_
          rintro e w2y ⟨sy', Ay, ly, py, By, my, dy, Ny, Dy, he, hfy, hPy, hbmy⟩
          subst he
          have hq2y := hq1y.below hbmy hq1y.lt
          have r0y := hq2y.c0
          have r1y := hq2y.c1
          have r2y := hq2y.c2
          have r3y := hq2y.fr 0
          have r4y := hq2y.fr 1
          have r5y := hq2y.fr 2
          refine hK _ _ ?_; clear hK K
          (try simp only [Act.put, List.setIfInBounds_toArray, List.set_cons_zero, List.set_cons_succ])
          refine wpAny_take (i := 3) (oi := ⟨some 42, _, _, _, _, _⟩) (v := .tuple #[.agg #[.bool sy', .slice Ay ly py, .slice By my dy], .int .i64 0]) rfl (by kernel_rfl) (by decide +kernel) (by decide +kernel) (fun _ _ _ h => h) (Or.inl ⟨by rfl, fun w => by go_simp⟩) ?_
          (try simp only [Act.put, List.setIfInBounds_toArray, List.set_cons_zero, List.set_cons_succ])
          refine wpAny_take (i := 4) (oi := ⟨some 46, _, _, _, _, _⟩) (v := .agg #[.bool sy', .slice Ay ly py, .slice By my dy]) rfl (by kernel_rfl) (by decide +kernel) (by decide +kernel) (fun _ _ _ h => h) (Or.inl ⟨by rfl, fun w => by go_simp⟩) ?_
          (try simp only [Act.put, List.setIfInBounds_toArray, List.set_cons_zero, List.set_cons_succ])
          refine wpAny_take (i := 5) (oi := ⟨some 47, _, _, _, _, _⟩) (v := .int .i64 0) rfl (by kernel_rfl) (by decide +kernel) (by decide +kernel) (fun _ _ _ h => h) (Or.inl ⟨by rfl, fun w => by go_simp⟩) ?_
          (try simp only [Act.put, List.setIfInBounds_toArray, List.set_cons_zero, List.set_cons_succ])
          refine wpAny_ready (rs := [6]) (by decide +kernel) (by simp) (AllReady.cons (o := ⟨none, _, _, _, _, _⟩) rfl (fun K hK => ?_) AllReady.nil)
          go_simp
          refine hK _ _ ?_; clear hK K
          (try simp only [Act.put, List.setIfInBounds_toArray, List.set_cons_zero, List.set_cons_succ])
          refine wpAny_done (by decide +kernel) ?_ _
          refine NoPanic.normal ?_
          have hbm8 := Below.after (Below.after HBDy.out hboy) hbmy
          have hqw := hq2y.writeA sy' (.slice Ay ly py) (.slice By my dy)
          have hfw := hfy.wroteA hq2y sy' (.slice Ay ly py) (.slice By my dy)
          have hF9 := (HF8.out.later hbm8).wrote (Nat.lt_trans HS3.out HS5.out) sy' (.slice Ay ly py) (.slice By my dy)
          have hqx2 := (heap_wroteQ sy' (.slice Ay ly py) (.slice By my dy) (Nat.ne_of_lt HS5.out)).trans (HQA.out.below hbm8 HQA.out.lt)
          have hfx2 := FQ.wroteA (FQ.up HFA.out hbm8) hq2y sy' (.slice Ay ly py) (.slice By my dy)
          have HR2 := Lib.hid (quarter hfoy.ne HFXy.out.ne HPOy.out hPy HP2.out)
          simp only [wroteQ] at hqw hfw hF9 hqx2 hfx2
          generalize ((w2y.setCell ⟨w5.heap.size, 0, none⟩ _).setCell ⟨w5.heap.size, 1, none⟩ _).setCell ⟨w5.heap.size, 2, none⟩ _ = V9 at *
          have g0 := (show QB V9 w3.heap.size sx' (.slice Ax lx px) (.slice Bx mx dx) from hqx2).c0
          have g1 := (show QB V9 w3.heap.size sx' (.slice Ax lx px) (.slice Bx mx dx) from hqx2).c1
          have g2 := (show QB V9 w3.heap.size sx' (.slice Ax lx px) (.slice Bx mx dx) from hqx2).c2
          have k0 := (show QB V9 w5.heap.size sy' (.slice Ay ly py) (.slice By my dy) from hqw).c0
          have k1 := (show QB V9 w5.heap.size sy' (.slice Ay ly py) (.slice By my dy) from hqw).c1
          have k2 := (show QB V9 w5.heap.size sy' (.slice Ay ly py) (.slice By my dy) from hqw).c2
          have HPI := Lib.hid (pis2 V9 9 ⟨sx', Ax, lx, px, Bx, mx, dx, Nx, Dx⟩ ⟨sy', Ay, ly, py, By, my, dy, Ny, Dy⟩ (by decide) hfx2 hfw)
          have HDX := Lib.hid hfx2.ne
          have HDY := Lib.hid hfw.ne
          have HF9 := Lib.hid hF9
          clear hqw hfw hF9 hqx2 hfx2 hbm8 hq2y hq1y hq0y hfy hfoy hPy HFUy HPOy hboy hbmy r0y r1y r2y r3y r4y r5y ho0y ho1y ho2y hl0y hl1y hl2y HFy HBDy HFXy HQy HQA HFA HF8
          go_wp2_with fail
          refine HPI.out.mono ?_
          rintro e w10 ⟨g, cap, ys, he, hl, hg, hat, hb10⟩
          subst he
          have F10 := HF9.out.later hb10
          have HSA := Lib.hid ((span_of (cap := cap) (by decide) hl hg (fun k z hz => ⟨(hat k z hz).1, (hat k z hz).2.1⟩)).mono (fun e w' h => HSP.out ys _ _ e w10 w10 w' hl (fun k z hz => (hat k z hz).2) HDX.out HDY.out HR1.out HR2.out h))
          have HFT := Lib.hid F10
          clear hl hg hat F10 hb10 g0 g1 g2 k0 k1 k2 HPI
          go_wp2_with fail
          refine HSA.out.mono ?_
          rintro e w11 ⟨he, hb11⟩
          subst he
          have F11 := HFT.out.later hb11
          obtain ⟨q1, q2, hr⟩ := F11.res
          have c30 := hr.c0
          have c31 := hr.c1
          have f30 := hr.f0
          have f31 := hr.f1
          have FB := Lib.hid F11
          clear hr F11 hb11
          go_wp2_with fail
          refine bodyPost_ret (v := .tuple #[.agg #[.int .i64 sx, .int .i64 sy], .int .i64 sc]) (by simp [results, Try.results30, c30, c31, go_sem]) rfl ⟨rfl, (FB.out.set _ _).bl⟩
        · go_simp
          refine (HOV.out _).mono ?_
          rintro e w1y ⟨soy, Aoy, loy, poy, Boy, moy, doy, Noy, Doy, he, hfoy, hPoy, hboy⟩
          subst he
          have HPOy := Lib.hid hPoy
          clear hPoy
          have hq1y := hq0y.below hboy hq0y.lt
          have ho0y := hq1y.c0
          have ho1y := hq1y.c1
          have ho2y := hq1y.c2
          have HFUy := Lib.hid (fmul (FQ.up HFy.out hboy) hfoy (by decide))
          refine hK _ _ ?_; clear hK K
          (try simp only [Act.put, List.setIfInBounds_toArray, List.set_cons_zero, List.set_cons_succ])
          refine wpAny_ready (rs := [0]) (by decide +kernel) (by simp) (AllReady.cons (o := ⟨some 43, _, _, _, _, _⟩) rfl (fun K hK => ?_) AllReady.nil)
          go_simp
          refine hK _ _ ?_; clear hK K
          (try simp only [Act.put, List.setIfInBounds_toArray, List.set_cons_zero, List.set_cons_succ])
          refine wpAny_ready (rs := [2]) (by decide +kernel) (by simp) (AllReady.cons (o := ⟨some 45, _, _, _, _, _⟩) rfl (fun K hK => ?_) AllReady.nil)
          go_simp
          refine HFUy.out.mono ?_
          rintro e w2y ⟨sy', Ay, ly, py, By, my, dy, Ny, Dy, he, hfy, hPy, hbmy⟩
          subst he
          have hq2y := hq1y.below hbmy hq1y.lt
          have r0y := hq2y.c0
          have r1y := hq2y.c1
          have r2y := hq2y.c2
          have r3y := hq2y.fr 0
          have r4y := hq2y.fr 1
          have r5y := hq2y.fr 2
          refine hK _ _ ?_; clear hK K
          (try simp only [Act.put, List.setIfInBounds_toArray, List.set_cons_zero, List.set_cons_succ])
          refine wpAny_take (i := 3) (oi := ⟨some 42, _, _, _, _, _⟩) (v := .tuple #[.agg #[.bool sy', .slice Ay ly py, .slice By my dy], .int .i64 0]) rfl (by kernel_rfl) (by decide +kernel) (by decide +kernel) (fun _ _ _ h => h) (Or.inl ⟨by rfl, fun w => by go_simp⟩) ?_
          (try simp only [Act.put, List.setIfInBounds_toArray, List.set_cons_zero, List.set_cons_succ])
          refine wpAny_take (i := 4) (oi := ⟨some 46, _, _, _, _, _⟩) (v := .agg #[.bool sy', .slice Ay ly py, .slice By my dy]) rfl (by kernel_rfl) (by decide +kernel) (by decide +kernel) (fun _ _ _ h => h) (Or.inl ⟨by rfl, fun w => by go_simp⟩) ?_
          (try simp only [Act.put, List.setIfInBounds_toArray, List.set_cons_zero, List.set_cons_succ])
          refine wpAny_take (i := 5) (oi := ⟨some 47, _, _, _, _, _⟩) (v := .int .i64 0) rfl (by kernel_rfl) (by decide +kernel) (by decide +kernel) (fun _ _ _ h => h) (Or.inl ⟨by rfl, fun w => by go_simp⟩) ?_
          (try simp only [Act.put, List.setIfInBounds_toArray, List.set_cons_zero, List.set_cons_succ])
          refine wpAny_ready (rs := [6]) (by decide +kernel) (by simp) (AllReady.cons (o := ⟨none, _, _, _, _, _⟩) rfl (fun K hK => ?_) AllReady.nil)
          go_simp
          refine hK _ _ ?_; clear hK K
          (try simp only [Act.put, List.setIfInBounds_toArray, List.set_cons_zero, List.set_cons_succ])
          refine wpAny_done (by decide +kernel) ?_ _
          refine NoPanic.normal ?_
          have hbm8 := Below.after (Below.after HBDy.out hboy) hbmy
          have hqw := hq2y.writeA sy' (.slice Ay ly py) (.slice By my dy)
          have hfw := hfy.wroteA hq2y sy' (.slice Ay ly py) (.slice By my dy)
          have hF9 := (HF8.out.later hbm8).wrote (Nat.lt_trans HS3.out HS5.out) sy' (.slice Ay ly py) (.slice By my dy)
          have hqx2 := (heap_wroteQ sy' (.slice Ay ly py) (.slice By my dy) (Nat.ne_of_lt HS5.out)).trans (HQA.out.below hbm8 HQA.out.lt)
          have hfx2 := FQ.wroteA (FQ.up HFA.out hbm8) hq2y sy' (.slice Ay ly py) (.slice By my dy)
          have HR2 := Lib.hid (quarter hfoy.ne HFXy.out.ne HPOy.out hPy HP2.out)
          simp only [wroteQ] at hqw hfw hF9 hqx2 hfx2
          generalize ((w2y.setCell ⟨w5.heap.size, 0, none⟩ _).setCell ⟨w5.heap.size, 1, none⟩ _).setCell ⟨w5.heap.size, 2, none⟩ _ = V9 at *
          have g0 := (show QB V9 w3.heap.size sx' (.slice Ax lx px) (.slice Bx mx dx) from hqx2).c0
          have g1 := (show QB V9 w3.heap.size sx' (.slice Ax lx px) (.slice Bx mx dx) from hqx2).c1
          have g2 := (show QB V9 w3.heap.size sx' (.slice Ax lx px) (.slice Bx mx dx) from hqx2).c2
          have k0 := (show QB V9 w5.heap.size sy' (.slice Ay ly py) (.slice By my dy) from hqw).c0
          have k1 := (show QB V9 w5.heap.size sy' (.slice Ay ly py) (.slice By my dy) from hqw).c1
          have k2 := (show QB V9 w5.heap.size sy' (.slice Ay ly py) (.slice By my dy) from hqw).c2
          have HPI := Lib.hid (pis2 V9 9 ⟨sx', Ax, lx, px, Bx, mx, dx, Nx, Dx⟩ ⟨sy', Ay, ly, py, By, my, dy, Ny, Dy⟩ (by decide) hfx2 hfw)
          have HDX := Lib.hid hfx2.ne
          have HDY := Lib.hid hfw.ne
          have HF9 := Lib.hid hF9
          clear hqw hfw hF9 hqx2 hfx2 hbm8 hq2y hq1y hq0y hfy hfoy hPy HFUy HPOy hboy hbmy r0y r1y r2y r3y r4y r5y ho0y ho1y ho2y hl0y hl1y hl2y HFy HBDy HFXy HQy HQA HFA HF8
          go_wp2_with fail
          refine HPI.out.mono ?_
          rintro e w10 ⟨g, cap, ys, he, hl, hg, hat, hb10⟩
          subst he
          have F10 := HF9.out.later hb10
          have HSA := Lib.hid ((span_of (cap := cap) (by decide) hl hg (fun k z hz => ⟨(hat k z hz).1, (hat k z hz).2.1⟩)).mono (fun e w' h => HSP.out ys _ _ e w10 w10 w' hl (fun k z hz => (hat k z hz).2) HDX.out HDY.out HR1.out HR2.out h))
          have HFT := Lib.hid F10
          clear hl hg hat F10 hb10 g0 g1 g2 k0 k1 k2 HPI
          go_wp2_with fail
          refine HSA.out.mono ?_
          rintro e w11 ⟨he, hb11⟩
          subst he
          have F11 := HFT.out.later hb11
          obtain ⟨q1, q2, hr⟩ := F11.res
          have c30 := hr.c0
          have c31 := hr.c1
          have f30 := hr.f0
          have f31 := hr.f1
          have FB := Lib.hid F11
          clear hr F11 hb11
          go_wp2_with fail
          refine bodyPost_ret (v := .tuple #[.agg #[.int .i64 sx, .int .i64 sy], .int .i64 sc]) (by simp [results, Try.results30, c30, c31, go_sem]) rfl ⟨rfl, (FB.out.set _ _).bl⟩
  · have hR : ivE (discE a) = .tuple #[.agg #[.int .i64 0, .int .i64 0], .int .i64 (examI [a])] := by unfold discE; rw [if_neg h0]; rfl
    rw [hR]
    clear hR
    unfold ivV at HCK ⊢
    generalize examI [a] = er at *
    have q1 : (er == 0) = false := by simp [h0]
    have q2 : (er != 0) = true := by simp [h0]
    clear h0
    go_enter Try.func30, Try.ntmps30
    go_wp2_with fail
    refine (HCK.out _).mono ?_
    rintro e w1 ⟨he, hb⟩
    subst he
    have F1 := Fm.of2 hb
    have c10 := F1.k0.c0
    have c11 := F1.k0.c1
    clear hb
    obtain ⟨p, q, hr⟩ := F1.res
    have c30 := hr.c0
    have c31 := hr.c1
    have f30 := hr.f0
    have f31 := hr.f1
    clear hr
    have FB := Lib.hid F1
    clear F1
    go_wp2_with fail
    refine bodyPost_ret (v := .tuple #[.agg #[.int .i64 0, .int .i64 0], .int .i64 er]) (by simp [results, Try.results30, c30, c31, go_sem]) rfl ⟨rfl, (FB.out.set _ _).bl⟩
end Go.Proofs.Ytmmgbofhbnflkaa
