import Derived.Test.YtlababdfdjjjaaaGreatDoorX1
namespace Go.Proofs.YtlababdfdjjjaaaGreatDoor
open Go.RowKit

/-! The program's product, quotient, difference and comparison of fractions. -/
theorem examW3 (f1 f2 : Fr) (n1 d1 n2 d2 : Value) (w : World) (h1 : FrV w f1 n1 d1) (h2 : FrV w f2 n2 d2) :
    Calls Tryz.prog 105 #[.slice (some ⟨w.heap.size + 1 + 1 + 1, 0, none⟩) 2 2] ((W3 w f1.neg f2.neg n1 d1 n2 d2).alloc (.cells #[.bool f1.neg, n1, d1, .bool f2.neg, n2, d2] 48)) fun e w' => e = .returned (.int .i64 (examQW [f1, f2])) ∧ FSum w f1.neg n1 d1 f2.neg n2 d2 w' := by
  have hF := fsum_start w f1.neg f2.neg n1 d1 n2 d2
  have hex := examQ2 f1 f2 n1 d1 n2 d2 (W3 w f1.neg f2.neg n1 d1 n2 d2) (h1.up hF.bl) (h2.up hF.bl)
  have hsz := W3_size w f1.neg f2.neg n1 d1 n2 d2
  generalize W3 w f1.neg f2.neg n1 d1 n2 d2 = W at *
  have hbA : Below W.heap.size W (W.alloc (.cells #[.bool f1.neg, n1, d1, .bool f2.neg, n2, d2] 48)) := (Below.refl _ _).alloc (Nat.le_refl _) _
  have hSA := hF.below hbA
  have hszA : (W.alloc (.cells #[.bool f1.neg, n1, d1, .bool f2.neg, n2, d2] 48)).heap.size = w.heap.size + 1 + 1 + 1 + 1 := by rw [World.size_alloc, hsz]
  rw [hsz] at hex
  exact hex.mono (fun e w' h => ⟨h.1, hSA.below (by rw [hszA]; exact h.2)⟩)
theorem product_num {va vb : Value} {m n : Nat} {W : World} (ha : Num W W.heap.size va m) (hb : Num W W.heap.size vb n) (h1 : (dg m).length ≤ 1000000) (h2 : (dg n).length ≤ 1000000) :
    Calls Tryz.prog 85 #[va, vb] W (RNum0 W (m * n)) := by
  have h := product_any va vb (dg m) (dg n) W ha hb (by omega) (by omega)
  rw [val_dg, val_dg] at h
  exact h.mono (fun e w' h => by obtain ⟨v, h1, h2, h3⟩ := h; exact ⟨v, h1, h2, h3⟩)
theorem low_num {u v : Value} {m n : Nat} {W : World} (sg : Bool) (ha : Num W W.heap.size u m) (hb : Num W W.heap.size v n) (hn : n ≠ 0) (h1 : (dg m).length ≤ 100000) (h2 : (dg n).length ≤ 100000) :
    Calls Tryz.prog 110 #[.bool sg, u, v] W (ResF W (lowW sg m n)) := (lowest_any sg u v m n W ha hb hn (by omega) (by omega)).mono fun e w' h => h.forms
theorem order_num {u v : Value} {m n : Nat} {W : World} (ha : Num W W.heap.size u m) (hb : Num W W.heap.size v n) (h1 : (dg m).length ≤ 1000000) :
    Calls Tryz.prog 88 #[u, v] W fun e w' => e = .returned (.int .i64 (cmpI m n)) ∧ Drawn W w' := compare_any u v m n W ha hb (by omega)

set_option maxRecDepth 100000 in
set_option maxHeartbeats 4000000 in
theorem QMul_any (f1 f2 : Fr) (n1 d1 n2 d2 : Value) (w : World) (h1 : FrV w f1 n1 d1) (h2 : FrV w f2 n2 d2) :
    Calls Tryz.prog 54 #[.agg #[.bool f1.neg, n1, d1], .agg #[.bool f2.neg, n2, d2]] w (ResW w (qmulW f1 f2)) := by
  have hF := fsum_start w f1.neg f2.neg n1 d1 n2 d2
  have hex := examW3 f1 f2 n1 d1 n2 d2 w h1 h2
  unfold W3 at hF hex
  have hok : examQW [f1, f2] = 0 → ∀ W', Below w.heap.size w W' → _ := fun h0 W' hW' => (⟨(h1.up hW').ok (examQW_ok h0 f1 (by simp)), (h2.up hW').ok (examQW_ok h0 f2 (by simp))⟩ : _ ∧ _)
  have ht1 : examQW [f1, f2] = 0 → ∀ W', Below w.heap.size w W' → Calls Tryz.prog 85 #[n1, n2] W' (RNum0 W' (val f1.num * val f2.num)) := by
    intro h0 W' hW'
    obtain ⟨⟨a1, a2, a3, a4, a5⟩, ⟨b1, b2, b3, b4, b5⟩⟩ := hok h0 W' hW'
    exact product_num a1 b1 (by omega) (by omega)
  have ht2 : examQW [f1, f2] = 0 → ∀ W', Below w.heap.size w W' → Calls Tryz.prog 85 #[d1, d2] W' (RNum0 W' (val f1.den * val f2.den)) := by
    intro h0 W' hW'
    obtain ⟨⟨a1, a2, a3, a4, a5⟩, ⟨b1, b2, b3, b4, b5⟩⟩ := hok h0 W' hW'
    exact product_num a2 b2 (by omega) (by omega)
  have hlo : examQW [f1, f2] = 0 → ∀ W' u v, Num W' W'.heap.size u (val f1.num * val f2.num) → Num W' W'.heap.size v (val f1.den * val f2.den) → Calls Tryz.prog 110 #[.bool (f1.neg != f2.neg), u, v] W' (ResF W' (lowW (f1.neg != f2.neg) (val f1.num * val f2.num) (val f1.den * val f2.den))) := by
    intro h0 W' u v hu hv
    obtain ⟨⟨a1, a2, a3, a4, a5⟩, ⟨b1, b2, b3, b4, b5⟩⟩ := hok h0 w (Below.refl _ _)
    have m1 := len_mul (val f1.num) (val f2.num)
    have m2 := len_mul (val f1.den) (val f2.den)
    exact low_num _ hu hv (Nat.mul_ne_zero a3 b3) (by omega) (by omega)
  have c0 := hF.qa.c0
  have c1 := hF.qa.c1
  have c2 := hF.qa.c2
  have d0 := hF.qb.c0
  have d1' := hF.qb.c1
  have d2' := hF.qb.c2
  have fn1 := h1.1.1.form
  have fd1 := h1.2.1.form
  have fn2 := h2.1.1.form
  have fd2 := h2.2.1.form
  obtain ⟨A1, e1, rfl, -⟩ := fn1
  obtain ⟨A2, e2, rfl, -⟩ := fd1
  obtain ⟨A3, e3, rfl, -⟩ := fn2
  obtain ⟨A4, e4, rfl, -⟩ := fd2
  unfold qmulW
  obtain ⟨sg, hsg⟩ : ∃ sg, sg = (f1.neg != f2.neg) := ⟨_, rfl⟩
  have qs : (f1.neg == f2.neg) = !sg := by rw [hsg]; simp [bne]
  rw [← hsg] at hlo ⊢
  clear hsg
  generalize lowW sg (val f1.num * val f2.num) (val f1.den * val f2.den) = fr at *
  generalize val f1.num * val f2.num = x at *
  generalize val f1.den * val f2.den = y at *
  generalize examQW [f1, f2] = ec at *
  have HEX := Lib.hid hex
  have HT1 := Lib.hid ht1
  have HT2 := Lib.hid ht2
  have HLO := Lib.hid hlo
  clear hex ht1 ht2 hlo hok hF h1 h2
  generalize f1.neg = s1 at *
  generalize f2.neg = s2 at *
  generalize f1.num.length = l1 at *
  generalize f1.den.length = l2 at *
  generalize f2.num.length = l3 at *
  generalize f2.den.length = l4 at *
  by_cases h0 : ec = 0
  · subst h0
    rw [if_pos rfl]
    have HU1 := Lib.hid (HT1.out rfl)
    have HU2 := Lib.hid (HT2.out rfl)
    have HUL := Lib.hid (HLO.out rfl)
    clear HT1 HT2 HLO
    obtain ⟨rs, rm, rn, re⟩ := fr
    go_enter Tryz.func54, Tryz.ntmps54
    go_wp2_with fail
    refine HEX.out.mono ?_
    rintro e w2 ⟨he, hS2⟩
    subst he
    have x0 := hS2.qa.c0
    have x1 := hS2.qa.c1
    have x2 := hS2.qa.c2
    have y0 := hS2.qb.c0
    have y1 := hS2.qb.c1
    have y2 := hS2.qb.c2
    have r0 := hS2.qr.c0
    have r1 := hS2.qr.c1
    have r2 := hS2.qr.c2
    have r3 := hS2.qr.fr 0
    have r4 := hS2.qr.fr 1
    have r5 := hS2.qr.fr 2
    go_wp2_with fail
    go_region_held3 (fun w' => w'.cell? ⟨w.heap.size, 0, none⟩ = some (.bool s1) ∧ w'.cell? ⟨w.heap.size, 1, none⟩ = some (.slice A1 l1 e1) ∧ w'.cell? ⟨w.heap.size, 2, none⟩ = some (.slice A2 l2 e2) ∧ w'.cell? ⟨w.heap.size + 1, 0, none⟩ = some (.bool s2) ∧ w'.cell? ⟨w.heap.size + 1, 1, none⟩ = some (.slice A3 l3 e3) ∧ w'.cell? ⟨w.heap.size + 1, 2, none⟩ = some (.slice A4 l4 e4))
      (((try dsimp only); refine ⟨?_, ?_, ?_, ?_, ?_, ?_⟩ <;> first | with_reducible assumption | with_reducible exact kpx0 _ _ _ | with_reducible exact kpx1 _ _ _ | with_reducible exact kpx2 _ _ _ | with_reducible exact kpy0 _ _ _ | with_reducible exact kpy1 _ _ _ | with_reducible exact kpy2 _ _ _ | go_keep))
      (first
        | (go_at_call 85; refine Calls.mono (HU1.out _ (FSum.bl hS2.drew)) ?_; rintro e w3 ⟨vx, he, hvx, hba⟩; subst he; have hSa := FSum.below hS2.drew hba; have x0a := hSa.qa.c0; have x1a := hSa.qa.c1; have x2a := hSa.qa.c2; have y0a := hSa.qb.c0; have y1a := hSa.qb.c1; have y2a := hSa.qb.c2; have r0a := hSa.qr.c0; have r1a := hSa.qr.c1; have r2a := hSa.qr.c2; have r3a := hSa.qr.fr 0; have r4a := hSa.qr.fr 1; have r5a := hSa.qr.fr 2; clear HU1)
        | (go_at_call 85; refine Calls.mono (HU2.out _ (FSum.bl hSa)) ?_; rintro e w4 ⟨vy, he, hvy, hbb⟩; subst he; have hSb := FSum.below hSa hbb; have x0b := hSb.qa.c0; have x1b := hSb.qa.c1; have x2b := hSb.qa.c2; have y0b := hSb.qb.c0; have y1b := hSb.qb.c1; have y2b := hSb.qb.c2; have r0b := hSb.qr.c0; have r1b := hSb.qr.c1; have r2b := hSb.qr.c2; have r3b := hSb.qr.fr 0; have r4b := hSb.qr.fr 1; have r5b := hSb.qr.fr 2; clear HU2; have hvx4 := Lim.up hvx hbb)
        | (go_at_call 110; refine Calls.mono (HUL.out _ _ _ hvx4 hvy) ?_; rintro e w5 ⟨Bn, ln, cn, Bd, ld, cd, he, hvn, hvd, hbc⟩; subst he; have hSc := FSum.below hSb hbc; have x0c := hSc.qa.c0; have x1c := hSc.qa.c1; have x2c := hSc.qa.c2; have y0c := hSc.qb.c0; have y1c := hSc.qb.c1; have y2c := hSc.qb.c2; have r0c := hSc.qr.c0; have r1c := hSc.qr.c1; have r2c := hSc.qr.c2; have r3c := hSc.qr.fr 0; have r4c := hSc.qr.fr 1; have r5c := hSc.qr.fr 2; clear HUL; have kpx0 := cell_other3 (k := w.heap.size + 1 + 1) x0c (by omega); have kpx1 := cell_other3 (k := w.heap.size + 1 + 1) x1c (by omega); have kpx2 := cell_other3 (k := w.heap.size + 1 + 1) x2c (by omega); have kpy0 := cell_other3 (k := w.heap.size + 1 + 1) y0c (by omega); have kpy1 := cell_other3 (k := w.heap.size + 1 + 1) y1c (by omega); have kpy2 := cell_other3 (k := w.heap.size + 1 + 1) y2c (by omega)))
    go_wp2_with fail
    change bodyPost _ _ _ Exit.ret _ (wroteQ w5 (w.heap.size + 1 + 1) rs (.slice Bn ln cn) (.slice Bd ld cd))
    have g1 := hSc.qr.write rs (.slice Bn ln cn) (.slice Bd ld cd)
    have g2 : Num (wroteQ w5 (w.heap.size + 1 + 1) rs (.slice Bn ln cn) (.slice Bd ld cd)) w5.heap.size (.slice Bn ln cn) rm := Lim.wroteQ hvn hSc.qr rs _ _
    have g3 : Num (wroteQ w5 (w.heap.size + 1 + 1) rs (.slice Bn ln cn) (.slice Bd ld cd)) w5.heap.size (.slice Bd ld cd) rn := Lim.wroteQ hvd hSc.qr rs _ _
    have g4 := wroteQ_below hSc.bl (show w.heap.size ≤ w.heap.size + 1 + 1 by omega) rs (.slice Bn ln cn) (.slice Bd ld cd)
    have g5 : w5.heap.size ≤ (wroteQ w5 (w.heap.size + 1 + 1) rs (.slice Bn ln cn) (.slice Bd ld cd)).heap.size := by simp [wroteQ, World.setCell]
    generalize wroteQ w5 (w.heap.size + 1 + 1) rs (.slice Bn ln cn) (.slice Bd ld cd) = W9 at g1 g2 g3 g4 g5 ⊢
    have k0 := g1.c0
    have k1 := g1.c1
    have k2 := g1.c2
    refine bodyPost_ret (v := .tuple #[.agg #[.bool rs, .slice Bn ln cn, .slice Bd ld cd], .int .i64 re]) ?_ rfl ⟨_, _, rfl, Lim.more g2 g5, Lim.more g3 g5, g4⟩
    simp [results, Tryz.results54, k0, k1, k2, go_sem]
  · rw [if_neg h0]
    have q1 : (ec == 0) = false := by simp [h0]
    have q2 : (ec != 0) = true := by simp [h0]
    clear h0 HT1 HT2 HLO
    go_enter Tryz.func54, Tryz.ntmps54
    go_wp2_with fail
    refine HEX.out.mono ?_
    rintro e w2 ⟨he, hS2⟩
    subst he
    have x0 := hS2.qa.c0
    have x1 := hS2.qa.c1
    have x2 := hS2.qa.c2
    have y0 := hS2.qb.c0
    have y1 := hS2.qb.c1
    have y2 := hS2.qb.c2
    have r0 := hS2.qr.c0
    have r1 := hS2.qr.c1
    have r2 := hS2.qr.c2
    have r3 := hS2.qr.fr 0
    have r4 := hS2.qr.fr 1
    have r5 := hS2.qr.fr 2
    go_wp2_with fail
    change bodyPost _ _ _ Exit.ret _ (wroteQ w2 (w.heap.size + 1 + 1) false (.slice none 0 0) (.slice none 0 0))
    have g1 := hS2.qr.write false (.slice none 0 0) (.slice none 0 0)
    have g4 := wroteQ_below hS2.bl (show w.heap.size ≤ w.heap.size + 1 + 1 by omega) false (.slice none 0 0) (.slice none 0 0)
    generalize wroteQ w2 (w.heap.size + 1 + 1) false (.slice none 0 0) (.slice none 0 0) = W9 at g1 g4 ⊢
    have k0 := g1.c0
    have k1 := g1.c1
    have k2 := g1.c2
    refine bodyPost_ret (v := .tuple #[.agg #[.bool false, .slice none 0 0, .slice none 0 0], .int .i64 ec]) ?_ rfl ⟨_, _, rfl, Num.zero _ _, Num.zero _ _, g4⟩
    simp [results, Tryz.results54, k0, k1, k2, go_sem]

set_option maxRecDepth 100000 in
set_option maxHeartbeats 4000000 in
theorem QDiv_any (f1 f2 : Fr) (n1 d1 n2 d2 : Value) (w : World) (h1 : FrV w f1 n1 d1) (h2 : FrV w f2 n2 d2) :
    Calls Tryz.prog 56 #[.agg #[.bool f1.neg, n1, d1], .agg #[.bool f2.neg, n2, d2]] w (ResW w (qdivW f1 f2)) := by
  have hF := fsum_start w f1.neg f2.neg n1 d1 n2 d2
  have hex := examW3 f1 f2 n1 d1 n2 d2 w h1 h2
  unfold W3 at hF hex
  have hok : examQW [f1, f2] = 0 → ∀ W', Below w.heap.size w W' → _ := fun h0 W' hW' => (⟨(h1.up hW').ok (examQW_ok h0 f1 (by simp)), (h2.up hW').ok (examQW_ok h0 f2 (by simp))⟩ : _ ∧ _)
  have ht1 : examQW [f1, f2] = 0 → val f2.num ≠ 0 → ∀ W', Below w.heap.size w W' → Calls Tryz.prog 85 #[n1, d2] W' (RNum0 W' (val f1.num * val f2.den)) := by
    intro h0 hz W' hW'
    obtain ⟨⟨a1, a2, a3, a4, a5⟩, ⟨b1, b2, b3, b4, b5⟩⟩ := hok h0 W' hW'
    exact product_num a1 b2 (by omega) (by omega)
  have ht2 : examQW [f1, f2] = 0 → val f2.num ≠ 0 → ∀ W', Below w.heap.size w W' → Calls Tryz.prog 85 #[d1, n2] W' (RNum0 W' (val f1.den * val f2.num)) := by
    intro h0 hz W' hW'
    obtain ⟨⟨a1, a2, a3, a4, a5⟩, ⟨b1, b2, b3, b4, b5⟩⟩ := hok h0 W' hW'
    exact product_num a2 b1 (by omega) (by omega)
  have hlo : examQW [f1, f2] = 0 → val f2.num ≠ 0 → ∀ W' u v, Num W' W'.heap.size u (val f1.num * val f2.den) → Num W' W'.heap.size v (val f1.den * val f2.num) → Calls Tryz.prog 110 #[.bool (f1.neg != f2.neg), u, v] W' (ResF W' (lowW (f1.neg != f2.neg) (val f1.num * val f2.den) (val f1.den * val f2.num))) := by
    intro h0 hz W' u v hu hv
    obtain ⟨⟨a1, a2, a3, a4, a5⟩, ⟨b1, b2, b3, b4, b5⟩⟩ := hok h0 w (Below.refl _ _)
    have m1 := len_mul (val f1.num) (val f2.den)
    have m2 := len_mul (val f1.den) (val f2.num)
    exact low_num _ hu hv (Nat.mul_ne_zero a3 hz) (by omega) (by omega)
  have hiz : examQW [f1, f2] = 0 → ∀ W', Below w.heap.size w W' → Calls Tryz.prog 77 #[n2] W' (fun e w' => e = .returned (.bool (decide (val f2.num = 0))) ∧ W' = w') := by
    intro h0 W' hW'
    obtain ⟨⟨a1, a2, a3, a4, a5⟩, ⟨b1, b2, b3, b4, b5⟩⟩ := hok h0 W' hW'
    exact isZero_any _ _ _ _ b1
  have hlz : examQW [f1, f2] = 0 → (f2.num.length = 0 ↔ val f2.num = 0) := fun h0 => lenz (h2.1.num (properW_ok (examQW_ok h0 f2 (by simp))).1 (by simp)).2.2
  have c0 := hF.qa.c0
  have c1 := hF.qa.c1
  have c2 := hF.qa.c2
  have d0 := hF.qb.c0
  have d1' := hF.qb.c1
  have d2' := hF.qb.c2
  have fn1 := h1.1.1.form
  have fd1 := h1.2.1.form
  have fn2 := h2.1.1.form
  have fd2 := h2.2.1.form
  obtain ⟨A1, e1, rfl, -⟩ := fn1
  obtain ⟨A2, e2, rfl, -⟩ := fd1
  obtain ⟨A3, e3, rfl, -⟩ := fn2
  obtain ⟨A4, e4, rfl, -⟩ := fd2
  unfold qdivW
  obtain ⟨sg, hsg⟩ : ∃ sg, sg = (f1.neg != f2.neg) := ⟨_, rfl⟩
  have qs : (f1.neg == f2.neg) = !sg := by rw [hsg]; simp [bne]
  rw [← hsg] at hlo ⊢
  clear hsg
  generalize lowW sg (val f1.num * val f2.den) (val f1.den * val f2.num) = fr at *
  generalize val f1.num * val f2.den = x at *
  generalize val f1.den * val f2.num = y at *
  generalize examQW [f1, f2] = ec at *
  have HEX := Lib.hid hex
  have HT1 := Lib.hid ht1
  have HT2 := Lib.hid ht2
  have HLO := Lib.hid hlo
  have HIZ := Lib.hid hiz
  clear hiz
  clear hex ht1 ht2 hlo hok hF h1 h2
  have HLZ := Lib.hid hlz
  clear hlz
  generalize val f2.num = vn at *
  generalize f1.neg = s1 at *
  generalize f2.neg = s2 at *
  generalize f1.num.length = l1 at *
  generalize f1.den.length = l2 at *
  generalize f2.num.length = l3 at *
  generalize f2.den.length = l4 at *
  by_cases h0 : ec = 0
  · subst h0
    rw [if_pos rfl]
    have HLZ := Lib.hid (HLZ.out rfl)
    by_cases hz : vn = 0
    · rw [if_pos hz]
      obtain rfl : l3 = 0 := HLZ.out.2 hz
      have HZ := Lib.hid (HIZ.out rfl)
      rw [decide_eq_true hz] at HZ
      clear HT1 HT2 HLO HLZ HIZ hz
      go_enter Tryz.func56, Tryz.ntmps56
      go_wp2_with fail
      refine HEX.out.mono ?_
      rintro e w2 ⟨he, hS2⟩
      subst he
      have x0 := hS2.qa.c0
      have x1 := hS2.qa.c1
      have x2 := hS2.qa.c2
      have y0 := hS2.qb.c0
      have y1 := hS2.qb.c1
      have y2 := hS2.qb.c2
      have r0 := hS2.qr.c0
      have r1 := hS2.qr.c1
      have r2 := hS2.qr.c2
      have r3 := hS2.qr.fr 0
      have r4 := hS2.qr.fr 1
      have r5 := hS2.qr.fr 2
      go_wp2_with fail
      refine (HZ.out w2 hS2.bl).mono ?_
      rintro e w2' ⟨he, rfl⟩
      subst he
      go_wp2_with fail
      change bodyPost _ _ _ Exit.ret _ (wroteQ w2 (w.heap.size + 1 + 1) false (.slice none 0 0) (.slice none 0 0))
      have g1 := hS2.qr.write false (.slice none 0 0) (.slice none 0 0)
      have g4 := wroteQ_below hS2.bl (show w.heap.size ≤ w.heap.size + 1 + 1 by omega) false (.slice none 0 0) (.slice none 0 0)
      generalize wroteQ w2 (w.heap.size + 1 + 1) false (.slice none 0 0) (.slice none 0 0) = W9 at g1 g4 ⊢
      have k0 := g1.c0
      have k1 := g1.c1
      have k2 := g1.c2
      refine bodyPost_ret (v := .tuple #[.agg #[.bool false, .slice none 0 0, .slice none 0 0], .int .i64 4]) ?_ rfl ⟨_, _, rfl, Num.zero _ _, Num.zero _ _, g4⟩
      simp [results, Tryz.results56, k0, k1, k2, go_sem]
    · rw [if_neg hz]
      have hl3 : l3 ≠ 0 := fun h => hz (HLZ.out.1 h)
      have HU1 := Lib.hid (HT1.out rfl hz)
      have HU2 := Lib.hid (HT2.out rfl hz)
      have HUL := Lib.hid (HLO.out rfl hz)
      have HZ := Lib.hid (HIZ.out rfl)
      rw [decide_eq_false hz] at HZ
      clear HIZ HLZ hz hl3 HT1 HT2 HLO
      obtain ⟨rs, rm, rn, re⟩ := fr
      go_enter Tryz.func56, Tryz.ntmps56
      go_wp2_with fail
      refine HEX.out.mono ?_
      rintro e w2 ⟨he, hS2⟩
      subst he
      have x0 := hS2.qa.c0
      have x1 := hS2.qa.c1
      have x2 := hS2.qa.c2
      have y0 := hS2.qb.c0
      have y1 := hS2.qb.c1
      have y2 := hS2.qb.c2
      have r0 := hS2.qr.c0
      have r1 := hS2.qr.c1
      have r2 := hS2.qr.c2
      have r3 := hS2.qr.fr 0
      have r4 := hS2.qr.fr 1
      have r5 := hS2.qr.fr 2
      go_wp2_with fail
      refine (HZ.out w2 hS2.bl).mono ?_
      rintro e w2' ⟨he, rfl⟩
      subst he
      go_wp2_with fail
      go_region_held3 (fun w' => w'.cell? ⟨w.heap.size, 0, none⟩ = some (.bool s1) ∧ w'.cell? ⟨w.heap.size, 1, none⟩ = some (.slice A1 l1 e1) ∧ w'.cell? ⟨w.heap.size, 2, none⟩ = some (.slice A2 l2 e2) ∧ w'.cell? ⟨w.heap.size + 1, 0, none⟩ = some (.bool s2) ∧ w'.cell? ⟨w.heap.size + 1, 1, none⟩ = some (.slice A3 l3 e3) ∧ w'.cell? ⟨w.heap.size + 1, 2, none⟩ = some (.slice A4 l4 e4))
        (((try dsimp only); refine ⟨?_, ?_, ?_, ?_, ?_, ?_⟩ <;> first | with_reducible assumption | with_reducible exact kpx0 _ _ _ | with_reducible exact kpx1 _ _ _ | with_reducible exact kpx2 _ _ _ | with_reducible exact kpy0 _ _ _ | with_reducible exact kpy1 _ _ _ | with_reducible exact kpy2 _ _ _ | go_keep))
        (first
          | (go_at_call 85; refine Calls.mono (HU1.out _ (FSum.bl hS2.drew)) ?_; rintro e w3 ⟨vx, he, hvx, hba⟩; subst he; have hSa := FSum.below hS2.drew hba; have x0a := hSa.qa.c0; have x1a := hSa.qa.c1; have x2a := hSa.qa.c2; have y0a := hSa.qb.c0; have y1a := hSa.qb.c1; have y2a := hSa.qb.c2; have r0a := hSa.qr.c0; have r1a := hSa.qr.c1; have r2a := hSa.qr.c2; have r3a := hSa.qr.fr 0; have r4a := hSa.qr.fr 1; have r5a := hSa.qr.fr 2; clear HU1)
          | (go_at_call 85; refine Calls.mono (HU2.out _ (FSum.bl hSa)) ?_; rintro e w4 ⟨vy, he, hvy, hbb⟩; subst he; have hSb := FSum.below hSa hbb; have x0b := hSb.qa.c0; have x1b := hSb.qa.c1; have x2b := hSb.qa.c2; have y0b := hSb.qb.c0; have y1b := hSb.qb.c1; have y2b := hSb.qb.c2; have r0b := hSb.qr.c0; have r1b := hSb.qr.c1; have r2b := hSb.qr.c2; have r3b := hSb.qr.fr 0; have r4b := hSb.qr.fr 1; have r5b := hSb.qr.fr 2; clear HU2; have hvx4 := Lim.up hvx hbb)
          | (go_at_call 110; refine Calls.mono (HUL.out _ _ _ hvx4 hvy) ?_; rintro e w5 ⟨Bn, ln, cn, Bd, ld, cd, he, hvn, hvd, hbc⟩; subst he; have hSc := FSum.below hSb hbc; have x0c := hSc.qa.c0; have x1c := hSc.qa.c1; have x2c := hSc.qa.c2; have y0c := hSc.qb.c0; have y1c := hSc.qb.c1; have y2c := hSc.qb.c2; have r0c := hSc.qr.c0; have r1c := hSc.qr.c1; have r2c := hSc.qr.c2; have r3c := hSc.qr.fr 0; have r4c := hSc.qr.fr 1; have r5c := hSc.qr.fr 2; clear HUL; have kpx0 := cell_other3 (k := w.heap.size + 1 + 1) x0c (by omega); have kpx1 := cell_other3 (k := w.heap.size + 1 + 1) x1c (by omega); have kpx2 := cell_other3 (k := w.heap.size + 1 + 1) x2c (by omega); have kpy0 := cell_other3 (k := w.heap.size + 1 + 1) y0c (by omega); have kpy1 := cell_other3 (k := w.heap.size + 1 + 1) y1c (by omega); have kpy2 := cell_other3 (k := w.heap.size + 1 + 1) y2c (by omega)))
      go_wp2_with fail
      change bodyPost _ _ _ Exit.ret _ (wroteQ w5 (w.heap.size + 1 + 1) rs (.slice Bn ln cn) (.slice Bd ld cd))
      have g1 := hSc.qr.write rs (.slice Bn ln cn) (.slice Bd ld cd)
      have g2 : Num (wroteQ w5 (w.heap.size + 1 + 1) rs (.slice Bn ln cn) (.slice Bd ld cd)) w5.heap.size (.slice Bn ln cn) rm := Lim.wroteQ hvn hSc.qr rs _ _
      have g3 : Num (wroteQ w5 (w.heap.size + 1 + 1) rs (.slice Bn ln cn) (.slice Bd ld cd)) w5.heap.size (.slice Bd ld cd) rn := Lim.wroteQ hvd hSc.qr rs _ _
      have g4 := wroteQ_below hSc.bl (show w.heap.size ≤ w.heap.size + 1 + 1 by omega) rs (.slice Bn ln cn) (.slice Bd ld cd)
      have g5 : w5.heap.size ≤ (wroteQ w5 (w.heap.size + 1 + 1) rs (.slice Bn ln cn) (.slice Bd ld cd)).heap.size := by simp [wroteQ, World.setCell]
      generalize wroteQ w5 (w.heap.size + 1 + 1) rs (.slice Bn ln cn) (.slice Bd ld cd) = W9 at g1 g2 g3 g4 g5 ⊢
      have k0 := g1.c0
      have k1 := g1.c1
      have k2 := g1.c2
      refine bodyPost_ret (v := .tuple #[.agg #[.bool rs, .slice Bn ln cn, .slice Bd ld cd], .int .i64 re]) ?_ rfl ⟨_, _, rfl, Lim.more g2 g5, Lim.more g3 g5, g4⟩
      simp [results, Tryz.results56, k0, k1, k2, go_sem]
  · rw [if_neg h0]
    have q1 : (ec == 0) = false := by simp [h0]
    have q2 : (ec != 0) = true := by simp [h0]
    clear h0 HT1 HT2 HLO HLZ HIZ
    go_enter Tryz.func56, Tryz.ntmps56
    go_wp2_with fail
    refine HEX.out.mono ?_
    rintro e w2 ⟨he, hS2⟩
    subst he
    have x0 := hS2.qa.c0
    have x1 := hS2.qa.c1
    have x2 := hS2.qa.c2
    have y0 := hS2.qb.c0
    have y1 := hS2.qb.c1
    have y2 := hS2.qb.c2
    have r0 := hS2.qr.c0
    have r1 := hS2.qr.c1
    have r2 := hS2.qr.c2
    have r3 := hS2.qr.fr 0
    have r4 := hS2.qr.fr 1
    have r5 := hS2.qr.fr 2
    go_wp2_with fail
    change bodyPost _ _ _ Exit.ret _ (wroteQ w2 (w.heap.size + 1 + 1) false (.slice none 0 0) (.slice none 0 0))
    have g1 := hS2.qr.write false (.slice none 0 0) (.slice none 0 0)
    have g4 := wroteQ_below hS2.bl (show w.heap.size ≤ w.heap.size + 1 + 1 by omega) false (.slice none 0 0) (.slice none 0 0)
    generalize wroteQ w2 (w.heap.size + 1 + 1) false (.slice none 0 0) (.slice none 0 0) = W9 at g1 g4 ⊢
    have k0 := g1.c0
    have k1 := g1.c1
    have k2 := g1.c2
    refine bodyPost_ret (v := .tuple #[.agg #[.bool false, .slice none 0 0, .slice none 0 0], .int .i64 ec]) ?_ rfl ⟨_, _, rfl, Num.zero _ _, Num.zero _ _, g4⟩
    simp [results, Tryz.results56, k0, k1, k2, go_sem]
end Go.Proofs.YtlababdfdjjjaaaGreatDoor
