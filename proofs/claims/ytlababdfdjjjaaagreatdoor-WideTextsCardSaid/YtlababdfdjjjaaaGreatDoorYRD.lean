import Derived.Test.YtlababdfdjjjaaaGreatDoorYRC
namespace Go.Proofs.YtlababdfdjjjaaaGreatDoor
open Go.RowKit

/-! The reference's sum of fractions. -/
theorem rplus_num {u v : Value} {m n : Nat} {W : World} (ha : Num W W.heap.size u m) (hb : Num W W.heap.size v n) (h1 : (dg m).length ≤ 1000000) (h2 : (dg n).length ≤ 1000000) :
    Calls Tryz.prog 86 #[u, v] W (RNum0 W (m + n)) := by
  have h := rplus_any u v (dg m) (dg n) W ha hb (by omega) (by omega)
  rw [val_dg, val_dg] at h
  exact h.mono (fun e w' h => by obtain ⟨v, h1, h2, h3, -⟩ := h; exact ⟨v, h1, h2, h3⟩)
theorem rminus_num {u v : Value} {m n : Nat} {W : World} (ha : Num W W.heap.size u m) (hb : Num W W.heap.size v n) (h1 : (dg m).length ≤ 1000000) (hle : n ≤ m) :
    Calls Tryz.prog 97 #[u, v] W (RNum0 W (m - n)) := by
  have h := rminus_any u v (dg m) (dg n) W ha hb (by omega) (by rw [val_dg, val_dg]; exact hle)
  rw [val_dg, val_dg] at h
  exact h.mono (fun e w' h => by obtain ⟨v, h1, h2, h3, -⟩ := h; exact ⟨v, h1, h2, h3⟩)
theorem rorder_num {u v : Value} {m n : Nat} {W : World} (ha : Num W W.heap.size u m) (hb : Num W W.heap.size v n) (h1 : (dg m).length ≤ 1000000) (h2 : (dg n).length ≤ 1000000) :
    Calls Tryz.prog 89 #[u, v] W fun e w' => e = .returned (.int .i64 (cmpI m n)) ∧ W = w' := by
  have h := rorder_any u v (dg m) (dg n) W.heap.size W ha hb (by omega) (by omega)
  rw [val_dg, val_dg] at h
  exact h
theorem len_add (x y : Nat) : (dg (x + y)).length ≤ (dg x).length + (dg y).length + 1 := by
  refine dg_le.2 ?_
  have h1 := lt_dg x
  have h2 := lt_dg y
  have h3 : LB ^ (dg x).length ≤ LB ^ ((dg x).length + (dg y).length) := Nat.pow_le_pow_right LB_pos (by omega)
  have h4 : LB ^ (dg y).length ≤ LB ^ ((dg x).length + (dg y).length) := Nat.pow_le_pow_right LB_pos (by omega)
  have h5 : LB ^ ((dg x).length + (dg y).length) * 2 ≤ LB ^ ((dg x).length + (dg y).length + 1) := by rw [Nat.pow_succ]; exact Nat.mul_le_mul_left _ LB_two
  omega

set_option maxRecDepth 100000 in
set_option maxHeartbeats 4000000 in
theorem rQAdd_any (f1 f2 : Fr) (n1 d1 n2 d2 : Value) (w : World) (h1 : FrV w f1 n1 d1) (h2 : FrV w f2 n2 d2) :
    Calls Tryz.prog 50 #[.agg #[.bool f1.neg, n1, d1], .agg #[.bool f2.neg, n2, d2]] w (ResW w (qaddW f1 f2)) := by
  have hF := fsum_start w f1.neg f2.neg n1 d1 n2 d2
  have hex := rexW3 f1 f2 n1 d1 n2 d2 w h1 h2
  unfold W3 at hF hex
  have hok : examQW [f1, f2] = 0 → ∀ W', Below w.heap.size w W' → _ := fun h0 W' hW' => (⟨(h1.up hW').ok (examQW_ok h0 f1 (by simp)), (h2.up hW').ok (examQW_ok h0 f2 (by simp))⟩ : _ ∧ _)
  have ht1 : examQW [f1, f2] = 0 → ∀ W', Below w.heap.size w W' → Calls Tryz.prog 87 #[n1, d2] W' (RNum0 W' (val f1.num * val f2.den)) := by
    intro h0 W' hW'
    obtain ⟨⟨a1, a2, a3, a4, a5⟩, ⟨b1, b2, b3, b4, b5⟩⟩ := hok h0 W' hW'
    exact rtimes_num a1 b2 (by omega) (by omega)
  have ht2 : examQW [f1, f2] = 0 → ∀ W', Below w.heap.size w W' → Calls Tryz.prog 87 #[n2, d1] W' (RNum0 W' (val f2.num * val f1.den)) := by
    intro h0 W' hW'
    obtain ⟨⟨a1, a2, a3, a4, a5⟩, ⟨b1, b2, b3, b4, b5⟩⟩ := hok h0 W' hW'
    exact rtimes_num b1 a2 (by omega) (by omega)
  have ht3 : examQW [f1, f2] = 0 → ∀ W', Below w.heap.size w W' → Calls Tryz.prog 87 #[d1, d2] W' (RNum0 W' (val f1.den * val f2.den)) := by
    intro h0 W' hW'
    obtain ⟨⟨a1, a2, a3, a4, a5⟩, ⟨b1, b2, b3, b4, b5⟩⟩ := hok h0 W' hW'
    exact rtimes_num a2 b2 (by omega) (by omega)
  have hsz : examQW [f1, f2] = 0 → (dg (val f1.num * val f2.den)).length ≤ 10000 ∧ (dg (val f2.num * val f1.den)).length ≤ 10000 ∧ (dg (val f1.den * val f2.den)).length ≤ 10000 ∧ val f1.den * val f2.den ≠ 0 := by
    intro h0
    obtain ⟨⟨a1, a2, a3, a4, a5⟩, ⟨b1, b2, b3, b4, b5⟩⟩ := hok h0 w (Below.refl _ _)
    have m1 := len_mul (val f1.num) (val f2.den)
    have m2 := len_mul (val f2.num) (val f1.den)
    have m3 := len_mul (val f1.den) (val f2.den)
    exact ⟨by omega, by omega, by omega, Nat.mul_ne_zero a3 b3⟩
  have c0 := hF.qa.c0
  have c1 := hF.qa.c1
  have c2 := hF.qa.c2
  have d0 := hF.qb.c0
  have d1' := hF.qb.c1
  have d2' := hF.qb.c2
  have fn1 := h1.1.1.form
  have fd1 := h1.2.1.form
  have fn2 := h2.1.1.form
  have fd2 := h2.2.1.form
  obtain ⟨A1, e1, rfl, -⟩ := fn1
  obtain ⟨A2, e2, rfl, -⟩ := fd1
  obtain ⟨A3, e3, rfl, -⟩ := fn2
  obtain ⟨A4, e4, rfl, -⟩ := fd2
  unfold qaddW fsumW
  generalize val f1.num * val f2.den = x at *
  generalize val f2.num * val f1.den = y at *
  generalize val f1.den * val f2.den = d at *
  generalize examQW [f1, f2] = ec at *
  have HEX := Lib.hid hex
  have HT1 := Lib.hid ht1
  have HT2 := Lib.hid ht2
  have HT3 := Lib.hid ht3
  have HSZ := Lib.hid hsz
  clear hex ht1 ht2 ht3 hsz hok hF h1 h2
  generalize f1.neg = s1 at *
  generalize f2.neg = s2 at *
  generalize f1.num.length = l1 at *
  generalize f1.den.length = l2 at *
  generalize f2.num.length = l3 at *
  generalize f2.den.length = l4 at *
  by_cases h0 : ec = 0
  · subst h0
    rw [if_pos rfl]
    have HU1 := Lib.hid (HT1.out rfl)
    have HU2 := Lib.hid (HT2.out rfl)
    have HU3 := Lib.hid (HT3.out rfl)
    obtain ⟨sx, sy, sd, dz⟩ := HSZ.out rfl
    have SX := Lib.hid sx
    have SY := Lib.hid sy
    have SD := Lib.hid sd
    have DZ := Lib.hid dz
    clear HT1 HT2 HT3 HSZ sx sy sd dz
    obtain ⟨res, hres⟩ : ∃ res : Bool × Nat × Nat × Int, res = if s1 = s2 then lowW s1 (x + y) d else if x < y then lowW s2 (y - x) d else lowW s1 (x - y) d := ⟨_, rfl⟩
    rw [← hres]
    have HRES := Lib.hid hres
    clear hres
    go_enter Tryz.func50, Tryz.ntmps50
    go_wp2_with fail
    refine HEX.out.mono ?_
    rintro e w2 ⟨he, hS2⟩
    subst he
    have x0 := hS2.qa.c0
    have x1 := hS2.qa.c1
    have x2 := hS2.qa.c2
    have y0 := hS2.qb.c0
    have y1 := hS2.qb.c1
    have y2 := hS2.qb.c2
    have r0 := hS2.qr.c0
    have r1 := hS2.qr.c1
    have r2 := hS2.qr.c2
    have r3 := hS2.qr.fr 0
    have r4 := hS2.qr.fr 1
    have r5 := hS2.qr.fr 2
    go_wp2_with fail
    go_region_held3 (fun w' => w'.cell? ⟨w.heap.size, 0, none⟩ = some (.bool s1) ∧ w'.cell? ⟨w.heap.size, 1, none⟩ = some (.slice A1 l1 e1) ∧ w'.cell? ⟨w.heap.size, 2, none⟩ = some (.slice A2 l2 e2) ∧ w'.cell? ⟨w.heap.size + 1, 0, none⟩ = some (.bool s2) ∧ w'.cell? ⟨w.heap.size + 1, 1, none⟩ = some (.slice A3 l3 e3) ∧ w'.cell? ⟨w.heap.size + 1, 2, none⟩ = some (.slice A4 l4 e4))
      (((try dsimp only); refine ⟨?_, ?_, ?_, ?_, ?_, ?_⟩ <;> first | with_reducible assumption | with_reducible exact kpx0 _ _ _ | with_reducible exact kpx1 _ _ _ | with_reducible exact kpx2 _ _ _ | with_reducible exact kpy0 _ _ _ | with_reducible exact kpy1 _ _ _ | with_reducible exact kpy2 _ _ _ | go_keep))
      (first
        | (go_at_call 87; refine Calls.mono (HU1.out _ (FSum.bl hS2.drew)) ?_; rintro e w3 ⟨vx, he, hvx, hba⟩; subst he; have hSa := FSum.below hS2.drew hba; have x0a := hSa.qa.c0; have x1a := hSa.qa.c1; have x2a := hSa.qa.c2; have y0a := hSa.qb.c0; have y1a := hSa.qb.c1; have y2a := hSa.qb.c2; have r0a := hSa.qr.c0; have r1a := hSa.qr.c1; have r2a := hSa.qr.c2; have r3a := hSa.qr.fr 0; have r4a := hSa.qr.fr 1; have r5a := hSa.qr.fr 2; clear HU1)
        | (go_at_call 87; refine Calls.mono (HU2.out _ (FSum.bl hSa)) ?_; rintro e w4 ⟨vy, he, hvy, hbb⟩; subst he; have hSb := FSum.below hSa hbb; have x0b := hSb.qa.c0; have x1b := hSb.qa.c1; have x2b := hSb.qa.c2; have y0b := hSb.qb.c0; have y1b := hSb.qb.c1; have y2b := hSb.qb.c2; have r0b := hSb.qr.c0; have r1b := hSb.qr.c1; have r2b := hSb.qr.c2; have r3b := hSb.qr.fr 0; have r4b := hSb.qr.fr 1; have r5b := hSb.qr.fr 2; clear HU2; have hvx4 := Lim.up hvx hbb)
        | (go_at_call 87; refine Calls.mono (HU3.out _ (FSum.bl hSb)) ?_; rintro e w5 ⟨vd, he, hvd, hbc⟩; subst he; have hSc := FSum.below hSb hbc; have x0c := hSc.qa.c0; have x1c := hSc.qa.c1; have x2c := hSc.qa.c2; have y0c := hSc.qb.c0; have y1c := hSc.qb.c1; have y2c := hSc.qb.c2; have r0c := hSc.qr.c0; have r1c := hSc.qr.c1; have r2c := hSc.qr.c2; have r3c := hSc.qr.fr 0; have r4c := hSc.qr.fr 1; have r5c := hSc.qr.fr 2; clear HU3; have hvx5 := Lim.up hvx4 hbc; have hvy5 := Lim.up hvy hbc))
    have HPL := Lib.hid (rplus_num (W := w5.drew) hvx5 hvy5 (by have := SX.out; omega) (by have := SY.out; omega))
    have HM1 := Lib.hid (fun (h : y ≤ x) => rminus_num (W := w5.drew) hvx5 hvy5 (by have := SX.out; omega) h)
    have HM2 := Lib.hid (fun (h : x ≤ y) => rminus_num (W := w5.drew) hvy5 hvx5 (by have := SY.out; omega) h)
    have HOR := Lib.hid (rorder_num hvx5 hvy5 (by have := SX.out; omega) (by have := SY.out; omega))
    have HLOW := Lib.hid (fun (W : World) (sg : Bool) (u : Value) (z : Nat) (r : Bool × Nat × Nat × Int) (hr : r = lowW sg z d) (hb : Below w5.heap.size w5 W) (hu : Num W W.heap.size u z) (hz : z ≤ x + y) => (show Calls Tryz.prog 108 #[.bool sg, u, vd] W (ResF W r) by
      rw [hr]
      have h1 := Nat.le_trans (dg_mono hz) (len_add x y)
      have h2 := SX.out
      have h3 := SY.out
      have h4 := SD.out
      exact rlow_num sg hu (Lim.up hvd hb) DZ.out (by omega) (by omega)))
    have HSC := Lib.hid hSc
    have HVD := Lib.hid hvd
    clear hvx hvx4 hvx5 hvy hvy5 hba hbb hbc hSa hSb hS2 hvd
    clear x0 x1 x2 y0 y1 y2 r0 r1 r2 r3 r4 r5 x0a x1a x2a y0a y1a y2a r0a r1a r2a r3a r4a r5a x0b x1b x2b y0b y1b y2b r0b r1b r2b r3b r4b r5b
    obtain ⟨rs, rm, rn, re⟩ := res
    by_cases hs : s1 = s2
    · have hr := HRES.out
      rw [if_pos hs] at hr
      have HR := Lib.hid hr
      have qb1 : (s1 == s2) = true := by rw [hs]; cases s2 <;> rfl
      clear hs hr HRES HM1 HM2 HOR
      go_wp2_with fail
      go_region_held3 (fun w' => w'.cell? ⟨w.heap.size, 0, none⟩ = some (.bool s1) ∧ w'.cell? ⟨w.heap.size + 1, 0, none⟩ = some (.bool s2))
        (((try dsimp only); refine ⟨?_, ?_⟩ <;> first | with_reducible assumption | with_reducible exact kpx0 _ _ _ | with_reducible exact kpy0 _ _ _ | go_keep))
        (first
          | (go_at_call 86; refine Calls.mono HPL.out ?_; rintro e w6 ⟨vs, he, hvs, hbs⟩; subst he; have hS6 := FSum.below HSC.out.drew hbs; have hb56 : Below w5.heap.size w5 w6 := (Below.refl _ w5).drew.trans hbs; have x0d := hS6.qa.c0; have y0d := hS6.qb.c0; have r0d := hS6.qr.c0; have r1d := hS6.qr.c1; have r2d := hS6.qr.c2; have r3d := hS6.qr.fr 0; have r4d := hS6.qr.fr 1; have r5d := hS6.qr.fr 2)
          | (go_at_call 108; refine Calls.mono (HLOW.out _ s1 _ (x + y) (rs, rm, rn, re) HR.out hb56 hvs (by omega)) ?_; clear HLOW; rintro e w7 ⟨Bn, ln, cn, Bd, ld, cd, he, hvn, hvd, hbl⟩; subst he; have hS7 := FSum.below hS6 hbl; have x0e := hS7.qa.c0; have y0e := hS7.qb.c0; have kpx0 := cell_other3 (k := w.heap.size + 1 + 1) x0e (by omega); have kpy0 := cell_other3 (k := w.heap.size + 1 + 1) y0e (by omega); have r0e := hS7.qr.c0; have r1e := hS7.qr.c1; have r2e := hS7.qr.c2; have r3e := hS7.qr.fr 0; have r4e := hS7.qr.fr 1; have r5e := hS7.qr.fr 2))
      go_wp2_with fail
      change bodyPost _ _ _ Exit.ret _ (wroteQ w7 (w.heap.size + 1 + 1) rs (.slice Bn ln cn) (.slice Bd ld cd))
      have g1 := hS7.qr.write rs (.slice Bn ln cn) (.slice Bd ld cd)
      have g2 : Num (wroteQ w7 (w.heap.size + 1 + 1) rs (.slice Bn ln cn) (.slice Bd ld cd)) w7.heap.size (.slice Bn ln cn) rm := Lim.wroteQ hvn hS7.qr rs _ _
      have g3 : Num (wroteQ w7 (w.heap.size + 1 + 1) rs (.slice Bn ln cn) (.slice Bd ld cd)) w7.heap.size (.slice Bd ld cd) rn := Lim.wroteQ hvd hS7.qr rs _ _
      have g4 := wroteQ_below hS7.bl (show w.heap.size ≤ w.heap.size + 1 + 1 by omega) rs (.slice Bn ln cn) (.slice Bd ld cd)
      have g5 : w7.heap.size ≤ (wroteQ w7 (w.heap.size + 1 + 1) rs (.slice Bn ln cn) (.slice Bd ld cd)).heap.size := by simp [wroteQ, World.setCell]
      generalize wroteQ w7 (w.heap.size + 1 + 1) rs (.slice Bn ln cn) (.slice Bd ld cd) = W9 at g1 g2 g3 g4 g5 ⊢
      have k0 := g1.c0
      have k1 := g1.c1
      have k2 := g1.c2
      refine bodyPost_ret (v := .tuple #[.agg #[.bool rs, .slice Bn ln cn, .slice Bd ld cd], .int .i64 re]) ?_ rfl ⟨_, _, rfl, Lim.more g2 g5, Lim.more g3 g5, g4⟩
      simp [results, Tryz.results50, k0, k1, k2, go_sem]
    · have hr := HRES.out
      rw [if_neg hs] at hr
      have qb1 : (s1 == s2) = false := by cases s1 <;> cases s2 <;> first | rfl | exact absurd rfl hs
      clear hs HRES HPL
      by_cases hlt : x < y
      · rw [if_pos hlt] at hr
        have HR := Lib.hid hr
        have hord := HOR.out
        rw [cmpI_lt hlt] at hord
        have HOR2 := Lib.hid hord
        have HQ := Lib.hid (HM2.out (Nat.le_of_lt hlt))
        clear hr hord HOR HM1 HM2
        go_wp2_with fail
        refine HOR2.out.mono ?_
        rintro e w5' ⟨he, hw⟩
        subst he
        subst hw
        go_wp2_with fail
        go_region_held3 (fun w' => w'.cell? ⟨w.heap.size, 0, none⟩ = some (.bool s1) ∧ w'.cell? ⟨w.heap.size + 1, 0, none⟩ = some (.bool s2))
          (((try dsimp only); refine ⟨?_, ?_⟩ <;> first | with_reducible assumption | with_reducible exact kpx0 _ _ _ | with_reducible exact kpy0 _ _ _ | go_keep))
          (first
            | (go_at_call 97; refine Calls.mono HQ.out ?_; rintro e w6 ⟨vs, he, hvs, hbs⟩; subst he; have hS6 := FSum.below HSC.out.drew hbs; have hb56 : Below w5.heap.size w5 w6 := (Below.refl _ w5).drew.trans hbs; have x0d := hS6.qa.c0; have y0d := hS6.qb.c0; have r0d := hS6.qr.c0; have r1d := hS6.qr.c1; have r2d := hS6.qr.c2; have r3d := hS6.qr.fr 0; have r4d := hS6.qr.fr 1; have r5d := hS6.qr.fr 2)
            | (go_at_call 108; refine Calls.mono (HLOW.out _ s2 _ (y - x) (rs, rm, rn, re) HR.out hb56 hvs (by omega)) ?_; clear HLOW; rintro e w7 ⟨Bn, ln, cn, Bd, ld, cd, he, hvn, hvd, hbl⟩; subst he; have hS7 := FSum.below hS6 hbl; have x0e := hS7.qa.c0; have y0e := hS7.qb.c0; have kpx0 := cell_other3 (k := w.heap.size + 1 + 1) x0e (by omega); have kpy0 := cell_other3 (k := w.heap.size + 1 + 1) y0e (by omega); have r0e := hS7.qr.c0; have r1e := hS7.qr.c1; have r2e := hS7.qr.c2; have r3e := hS7.qr.fr 0; have r4e := hS7.qr.fr 1; have r5e := hS7.qr.fr 2))
        go_wp2_with fail
        change bodyPost _ _ _ Exit.ret _ (wroteQ w7 (w.heap.size + 1 + 1) rs (.slice Bn ln cn) (.slice Bd ld cd))
        have g1 := hS7.qr.write rs (.slice Bn ln cn) (.slice Bd ld cd)
        have g2 : Num (wroteQ w7 (w.heap.size + 1 + 1) rs (.slice Bn ln cn) (.slice Bd ld cd)) w7.heap.size (.slice Bn ln cn) rm := Lim.wroteQ hvn hS7.qr rs _ _
        have g3 : Num (wroteQ w7 (w.heap.size + 1 + 1) rs (.slice Bn ln cn) (.slice Bd ld cd)) w7.heap.size (.slice Bd ld cd) rn := Lim.wroteQ hvd hS7.qr rs _ _
        have g4 := wroteQ_below hS7.bl (show w.heap.size ≤ w.heap.size + 1 + 1 by omega) rs (.slice Bn ln cn) (.slice Bd ld cd)
        have g5 : w7.heap.size ≤ (wroteQ w7 (w.heap.size + 1 + 1) rs (.slice Bn ln cn) (.slice Bd ld cd)).heap.size := by simp [wroteQ, World.setCell]
        generalize wroteQ w7 (w.heap.size + 1 + 1) rs (.slice Bn ln cn) (.slice Bd ld cd) = W9 at g1 g2 g3 g4 g5 ⊢
        have k0 := g1.c0
        have k1 := g1.c1
        have k2 := g1.c2
        refine bodyPost_ret (v := .tuple #[.agg #[.bool rs, .slice Bn ln cn, .slice Bd ld cd], .int .i64 re]) ?_ rfl ⟨_, _, rfl, Lim.more g2 g5, Lim.more g3 g5, g4⟩
        simp [results, Tryz.results50, k0, k1, k2, go_sem]
      · rw [if_neg hlt] at hr
        have HR := Lib.hid hr
        obtain ⟨cc, hc, hc0⟩ : ∃ c, cmpI x y = c ∧ 0 ≤ c := by
          unfold cmpI
          rw [if_neg hlt]
          split
          · exact ⟨0, rfl, by omega⟩
          · exact ⟨1, rfl, by omega⟩
        have hord := HOR.out
        rw [hc] at hord
        have HOR2 := Lib.hid hord
        have HQ := Lib.hid (HM1.out (by omega))
        have t1 : decide ((0 : Int) ≤ cc) = true := decide_eq_true hc0
        clear hr hord HOR HM1 HM2 hc
        go_wp2_with fail
        refine HOR2.out.mono ?_
        rintro e w5' ⟨he, hw⟩
        subst he
        subst hw
        go_wp2_with fail
        go_region_held3 (fun w' => w'.cell? ⟨w.heap.size, 0, none⟩ = some (.bool s1) ∧ w'.cell? ⟨w.heap.size + 1, 0, none⟩ = some (.bool s2))
          (((try dsimp only); refine ⟨?_, ?_⟩ <;> first | with_reducible assumption | with_reducible exact kpx0 _ _ _ | with_reducible exact kpy0 _ _ _ | go_keep))
          (first
            | (go_at_call 97; refine Calls.mono HQ.out ?_; rintro e w6 ⟨vs, he, hvs, hbs⟩; subst he; have hS6 := FSum.below HSC.out.drew hbs; have hb56 : Below w5.heap.size w5 w6 := (Below.refl _ w5).drew.trans hbs; have x0d := hS6.qa.c0; have y0d := hS6.qb.c0; have r0d := hS6.qr.c0; have r1d := hS6.qr.c1; have r2d := hS6.qr.c2; have r3d := hS6.qr.fr 0; have r4d := hS6.qr.fr 1; have r5d := hS6.qr.fr 2)
            | (go_at_call 108; refine Calls.mono (HLOW.out _ s1 _ (x - y) (rs, rm, rn, re) HR.out hb56 hvs (by omega)) ?_; clear HLOW; rintro e w7 ⟨Bn, ln, cn, Bd, ld, cd, he, hvn, hvd, hbl⟩; subst he; have hS7 := FSum.below hS6 hbl; have x0e := hS7.qa.c0; have y0e := hS7.qb.c0; have kpx0 := cell_other3 (k := w.heap.size + 1 + 1) x0e (by omega); have kpy0 := cell_other3 (k := w.heap.size + 1 + 1) y0e (by omega); have r0e := hS7.qr.c0; have r1e := hS7.qr.c1; have r2e := hS7.qr.c2; have r3e := hS7.qr.fr 0; have r4e := hS7.qr.fr 1; have r5e := hS7.qr.fr 2))
        go_wp2_with fail
        change bodyPost _ _ _ Exit.ret _ (wroteQ w7 (w.heap.size + 1 + 1) rs (.slice Bn ln cn) (.slice Bd ld cd))
        have g1 := hS7.qr.write rs (.slice Bn ln cn) (.slice Bd ld cd)
        have g2 : Num (wroteQ w7 (w.heap.size + 1 + 1) rs (.slice Bn ln cn) (.slice Bd ld cd)) w7.heap.size (.slice Bn ln cn) rm := Lim.wroteQ hvn hS7.qr rs _ _
        have g3 : Num (wroteQ w7 (w.heap.size + 1 + 1) rs (.slice Bn ln cn) (.slice Bd ld cd)) w7.heap.size (.slice Bd ld cd) rn := Lim.wroteQ hvd hS7.qr rs _ _
        have g4 := wroteQ_below hS7.bl (show w.heap.size ≤ w.heap.size + 1 + 1 by omega) rs (.slice Bn ln cn) (.slice Bd ld cd)
        have g5 : w7.heap.size ≤ (wroteQ w7 (w.heap.size + 1 + 1) rs (.slice Bn ln cn) (.slice Bd ld cd)).heap.size := by simp [wroteQ, World.setCell]
        generalize wroteQ w7 (w.heap.size + 1 + 1) rs (.slice Bn ln cn) (.slice Bd ld cd) = W9 at g1 g2 g3 g4 g5 ⊢
        have k0 := g1.c0
        have k1 := g1.c1
        have k2 := g1.c2
        refine bodyPost_ret (v := .tuple #[.agg #[.bool rs, .slice Bn ln cn, .slice Bd ld cd], .int .i64 re]) ?_ rfl ⟨_, _, rfl, Lim.more g2 g5, Lim.more g3 g5, g4⟩
        simp [results, Tryz.results50, k0, k1, k2, go_sem]
  · rw [if_neg h0]
    have q1 : (ec == 0) = false := by simp [h0]
    have q2 : (ec != 0) = true := by simp [h0]
    clear h0 HT1 HT2 HT3 HSZ
    go_enter Tryz.func50, Tryz.ntmps50
    go_wp2_with fail
    refine HEX.out.mono ?_
    rintro e w2 ⟨he, hS2⟩
    subst he
    have x0 := hS2.qa.c0
    have x1 := hS2.qa.c1
    have x2 := hS2.qa.c2
    have y0 := hS2.qb.c0
    have y1 := hS2.qb.c1
    have y2 := hS2.qb.c2
    have r0 := hS2.qr.c0
    have r1 := hS2.qr.c1
    have r2 := hS2.qr.c2
    have r3 := hS2.qr.fr 0
    have r4 := hS2.qr.fr 1
    have r5 := hS2.qr.fr 2
    go_wp2_with fail
    change bodyPost _ _ _ Exit.ret _ (wroteQ w2 (w.heap.size + 1 + 1) false (.slice none 0 0) (.slice none 0 0))
    have g1 := hS2.qr.write false (.slice none 0 0) (.slice none 0 0)
    have g4 := wroteQ_below hS2.bl (show w.heap.size ≤ w.heap.size + 1 + 1 by omega) false (.slice none 0 0) (.slice none 0 0)
    generalize wroteQ w2 (w.heap.size + 1 + 1) false (.slice none 0 0) (.slice none 0 0) = W9 at g1 g4 ⊢
    have k0 := g1.c0
    have k1 := g1.c1
    have k2 := g1.c2
    refine bodyPost_ret (v := .tuple #[.agg #[.bool false, .slice none 0 0, .slice none 0 0], .int .i64 ec]) ?_ rfl ⟨_, _, rfl, Num.zero _ _, Num.zero _ _, g4⟩
    simp [results, Tryz.results50, k0, k1, k2, go_sem]
end Go.Proofs.YtlababdfdjjjaaaGreatDoor
namespace Go.Proofs.YtlababdfdjjjaaaGreatDoor
open Go.RowKit

/-! The reference's difference of fractions. -/
set_option maxRecDepth 100000 in
set_option maxHeartbeats 1000000 in
theorem rturned_any (neg : Bool) (A B : Option Addr) (l1 e1 l2 e2 : Nat) (w : World) :
    Calls Tryz.prog 109 #[.agg #[.bool neg, .slice A l1 e1, .slice B l2 e2]] w fun e w' => e = .returned (.agg #[.bool (!neg && decide (0 < l1)), .slice A l1 e1, .slice B l2 e2]) ∧ Below w.heap.size w w' := by
  have hb : ∀ b, Below w.heap.size w ((w.alloc (.cells #[.bool neg, .slice A l1 e1, .slice B l2 e2] 48)).alloc (.cells #[.bool b, .slice A l1 e1, .slice B l2 e2] 48)) := fun b => ((Below.refl _ _).alloc (Nat.le_refl _) _).alloc (by simp) _
  have HB := Lib.hid hb
  clear hb
  cases neg
  · by_cases h : 0 < l1
    · have h1 : (0 : Int) < (l1 : Int) := by omega
      rw [decide_eq_true h]
      have HL := Lib.hid h
      clear h
      go_enter Tryz.func109, Tryz.ntmps109
      go_wp2_with fail
      exact bodyPost_ret (v := .agg #[.bool true, .slice A l1 e1, .slice B l2 e2]) (by have h := HL.out; simp [h, results, Tryz.results109, go_sem]) rfl ⟨rfl, HB.out _⟩
    · have h1 : ¬ (0 : Int) < (l1 : Int) := by omega
      rw [decide_eq_false h]
      have HL := Lib.hid (show l1 = 0 by omega)
      clear h
      go_enter Tryz.func109, Tryz.ntmps109
      go_wp2_with fail
      exact bodyPost_ret (v := .agg #[.bool false, .slice A l1 e1, .slice B l2 e2]) (by have h := HL.out; simp [h, results, Tryz.results109, go_sem]) rfl ⟨rfl, HB.out _⟩
  · go_enter Tryz.func109, Tryz.ntmps109
    go_wp2_with fail
    exact bodyPost_ret (v := .agg #[.bool false, .slice A l1 e1, .slice B l2 e2]) (by simp [results, Tryz.results109, go_sem]) rfl ⟨rfl, HB.out _⟩
def qsubW (f1 f2 : Fr) : Bool × Nat × Nat × Int := if examQW [f1, f2] = 0 then fsumW f1.neg (val f1.num) (val f1.den) (!f2.neg) (val f2.num) (val f2.den) else (false, 0, 0, examQW [f1, f2])
theorem fsumW_zero (a b c : Bool) (m1 n1 n2 : Nat) : fsumW a m1 n1 b 0 n2 = fsumW a m1 n1 c 0 n2 := by
  have h : ∀ b, fsumW a m1 n1 b 0 n2 = lowW a (m1 * n2) (n1 * n2) := by
    intro b
    unfold fsumW
    rw [Nat.zero_mul, Nat.add_zero, Nat.sub_zero, if_neg (Nat.not_lt_zero _)]
    split <;> rfl
  rw [h, h]
/-- The fraction with the other sign. -/
def Fr.turned (f : Fr) : Fr := ⟨!f.neg && decide (0 < f.num.length), f.num, f.den⟩
theorem turned_proper {f : Fr} (h : f.proper = true) (hz : f.num.length = 0 ↔ val f.num = 0) : f.turned.proper = true ∧ f.turned.ex = f.ex := by
  refine ⟨?_, rfl⟩
  have hz' : (decide (0 < f.num.length)) = !decide (val f.num = 0) := by
    by_cases h0 : val f.num = 0
    · have := hz.2 h0; simp [h0, this]
    · have : f.num.length ≠ 0 := fun e => h0 (hz.1 e)
      have : 0 < f.num.length := by omega
      simp [h0, this]
  unfold Fr.turned Fr.proper properW at *
  simp only [hz']
  cases f.neg <;> cases h0 : decide (val f.num = 0) <;> simp [h0] at h ⊢ <;> first | exact h | exact ⟨h.1.1, h.2⟩
theorem qsub_eq {f1 f2 : Fr} (h : examQW [f1, f2] = 0) (hz : f2.num.length = 0 ↔ val f2.num = 0) : qaddW f1 f2.turned = qsubW f1 f2 := by
  have p1 := examQW_ok h f1 (by simp)
  have p2 := examQW_ok h f2 (by simp)
  obtain ⟨t1, t2⟩ := turned_proper p2 hz
  have h' : examQW [f1, f2.turned] = 0 := by
    have h3 : ¬ f1.ex = 3 := fun e => by rw [examQW_long (k := 0) rfl e] at h; cases h
    have h4 : ¬ f2.ex = 3 := fun e => by rw [examQW_long (k := 1) rfl e] at h; cases h
    unfold examQW
    simp [h3, t2, h4, p1, t1]
  unfold qaddW qsubW
  rw [if_pos h, if_pos h']
  show fsumW f1.neg (val f1.num) (val f1.den) (!f2.neg && decide (0 < f2.num.length)) (val f2.num) (val f2.den) = _
  by_cases h0 : val f2.num = 0
  · rw [h0]; exact fsumW_zero _ _ _ _ _ _
  · have : f2.num.length ≠ 0 := fun e => h0 (hz.1 e)
    rw [decide_eq_true (show 0 < f2.num.length by omega), Bool.and_true]

set_option maxRecDepth 100000 in
set_option maxHeartbeats 4000000 in
theorem rQSub_any (f1 f2 : Fr) (n1 d1 n2 d2 : Value) (w : World) (h1 : FrV w f1 n1 d1) (h2 : FrV w f2 n2 d2) :
    Calls Tryz.prog 52 #[.agg #[.bool f1.neg, n1, d1], .agg #[.bool f2.neg, n2, d2]] w (ResW w (qsubW f1 f2)) := by
  have hF := fsum_start w f1.neg f2.neg n1 d1 n2 d2
  have hex := rexW3 f1 f2 n1 d1 n2 d2 w h1 h2
  unfold W3 at hF hex
  have hqa : examQW [f1, f2] = 0 → ∀ W', Below w.heap.size w W' → Calls Tryz.prog 50 #[.agg #[.bool f1.neg, n1, d1], .agg #[.bool (!f2.neg && decide (0 < f2.num.length)), n2, d2]] W' (ResF W' (qsubW f1 f2)) := by
    intro h0 W' hW'
    have hz := lenz (h2.1.num (properW_ok (examQW_ok h0 f2 (by simp))).1 (by simp)).2.2
    rw [← qsub_eq h0 hz]
    exact (rQAdd_any f1 f2.turned n1 d1 n2 d2 W' (h1.up hW') (h2.up hW')).mono fun e w' h => h.forms
  have hbad : ¬ examQW [f1, f2] = 0 → qsubW f1 f2 = (false, 0, 0, examQW [f1, f2]) := fun h => by unfold qsubW; rw [if_neg h]
  have c0 := hF.qa.c0
  have c1 := hF.qa.c1
  have c2 := hF.qa.c2
  have d0 := hF.qb.c0
  have d1' := hF.qb.c1
  have d2' := hF.qb.c2
  have fn1 := h1.1.1.form
  have fd1 := h1.2.1.form
  have fn2 := h2.1.1.form
  have fd2 := h2.2.1.form
  obtain ⟨A1, e1, rfl, -⟩ := fn1
  obtain ⟨A2, e2, rfl, -⟩ := fd1
  obtain ⟨A3, e3, rfl, -⟩ := fn2
  obtain ⟨A4, e4, rfl, -⟩ := fd2
  generalize qsubW f1 f2 = fr at *
  generalize examQW [f1, f2] = ec at *
  have HEX := Lib.hid hex
  have HQA := Lib.hid hqa
  clear hex hqa hF h1 h2
  have htu := fun W => rturned_any f2.neg A3 A4 f2.num.length e3 f2.den.length e4 W
  obtain ⟨tn, htn⟩ : ∃ tn, tn = (!f2.neg && decide (0 < f2.num.length)) := ⟨_, rfl⟩
  rw [← htn] at htu HQA
  clear htn
  have HTU := Lib.hid htu
  clear htu
  generalize f1.neg = s1 at *
  generalize f2.neg = s2 at *
  generalize f1.num.length = l1 at *
  generalize f1.den.length = l2 at *
  generalize f2.num.length = l3 at *
  generalize f2.den.length = l4 at *
  by_cases h0 : ec = 0
  · subst h0
    have HU := Lib.hid (HQA.out rfl)
    clear HQA hbad
    obtain ⟨rs, rm, rn, re⟩ := fr
    go_enter Tryz.func52, Tryz.ntmps52
    go_wp2_with fail
    refine HEX.out.mono ?_
    rintro e w2 ⟨he, hS2⟩
    subst he
    have x0 := hS2.qa.c0
    have x1 := hS2.qa.c1
    have x2 := hS2.qa.c2
    have y0 := hS2.qb.c0
    have y1 := hS2.qb.c1
    have y2 := hS2.qb.c2
    have r0 := hS2.qr.c0
    have r1 := hS2.qr.c1
    have r2 := hS2.qr.c2
    have r3 := hS2.qr.fr 0
    have r4 := hS2.qr.fr 1
    have r5 := hS2.qr.fr 2
    go_wp2_with fail
    go_region_held3 (fun w' => w'.cell? ⟨w.heap.size, 0, none⟩ = some (.bool s1) ∧ w'.cell? ⟨w.heap.size, 1, none⟩ = some (.slice A1 l1 e1) ∧ w'.cell? ⟨w.heap.size, 2, none⟩ = some (.slice A2 l2 e2) ∧ w'.cell? ⟨w.heap.size + 1, 0, none⟩ = some (.bool s2) ∧ w'.cell? ⟨w.heap.size + 1, 1, none⟩ = some (.slice A3 l3 e3) ∧ w'.cell? ⟨w.heap.size + 1, 2, none⟩ = some (.slice A4 l4 e4))
      (((try dsimp only); refine ⟨?_, ?_, ?_, ?_, ?_, ?_⟩ <;> first | with_reducible assumption | with_reducible exact kpx0 _ _ _ | with_reducible exact kpx1 _ _ _ | with_reducible exact kpx2 _ _ _ | with_reducible exact kpy0 _ _ _ | with_reducible exact kpy1 _ _ _ | with_reducible exact kpy2 _ _ _ | go_keep))
      (first
        | (go_at_call 109; refine Calls.mono (HTU.out _) ?_; rintro e w3 ⟨he, hba⟩; subst he; have hSa := FSum.below hS2.drew hba; have x0a := hSa.qa.c0; have x1a := hSa.qa.c1; have x2a := hSa.qa.c2; have y0a := hSa.qb.c0; have y1a := hSa.qb.c1; have y2a := hSa.qb.c2; have r0a := hSa.qr.c0; have r1a := hSa.qr.c1; have r2a := hSa.qr.c2; have r3a := hSa.qr.fr 0; have r4a := hSa.qr.fr 1; have r5a := hSa.qr.fr 2; clear HTU)
        | (go_at_call 50; refine Calls.mono (HU.out _ (FSum.bl hSa)) ?_; rintro e w4 ⟨Bn, ln, cn, Bd, ld, cd, he, hvn, hvd, hbb⟩; subst he; have hSb := FSum.below hSa hbb; have x0b := hSb.qa.c0; have x1b := hSb.qa.c1; have x2b := hSb.qa.c2; have y0b := hSb.qb.c0; have y1b := hSb.qb.c1; have y2b := hSb.qb.c2; have r0b := hSb.qr.c0; have r1b := hSb.qr.c1; have r2b := hSb.qr.c2; have r3b := hSb.qr.fr 0; have r4b := hSb.qr.fr 1; have r5b := hSb.qr.fr 2; clear HU; have kpx0 := cell_other3 (k := w.heap.size + 1 + 1) x0b (by omega); have kpx1 := cell_other3 (k := w.heap.size + 1 + 1) x1b (by omega); have kpx2 := cell_other3 (k := w.heap.size + 1 + 1) x2b (by omega); have kpy0 := cell_other3 (k := w.heap.size + 1 + 1) y0b (by omega); have kpy1 := cell_other3 (k := w.heap.size + 1 + 1) y1b (by omega); have kpy2 := cell_other3 (k := w.heap.size + 1 + 1) y2b (by omega)))
    go_wp2_with fail
    change bodyPost _ _ _ Exit.ret _ (wroteQ w4 (w.heap.size + 1 + 1) rs (.slice Bn ln cn) (.slice Bd ld cd))
    have g1 := hSb.qr.write rs (.slice Bn ln cn) (.slice Bd ld cd)
    have g2 : Num (wroteQ w4 (w.heap.size + 1 + 1) rs (.slice Bn ln cn) (.slice Bd ld cd)) w4.heap.size (.slice Bn ln cn) rm := Lim.wroteQ hvn hSb.qr rs _ _
    have g3 : Num (wroteQ w4 (w.heap.size + 1 + 1) rs (.slice Bn ln cn) (.slice Bd ld cd)) w4.heap.size (.slice Bd ld cd) rn := Lim.wroteQ hvd hSb.qr rs _ _
    have g4 := wroteQ_below hSb.bl (show w.heap.size ≤ w.heap.size + 1 + 1 by omega) rs (.slice Bn ln cn) (.slice Bd ld cd)
    have g5 : w4.heap.size ≤ (wroteQ w4 (w.heap.size + 1 + 1) rs (.slice Bn ln cn) (.slice Bd ld cd)).heap.size := by simp [wroteQ, World.setCell]
    generalize wroteQ w4 (w.heap.size + 1 + 1) rs (.slice Bn ln cn) (.slice Bd ld cd) = W9 at g1 g2 g3 g4 g5 ⊢
    have k0 := g1.c0
    have k1 := g1.c1
    have k2 := g1.c2
    refine bodyPost_ret (v := .tuple #[.agg #[.bool rs, .slice Bn ln cn, .slice Bd ld cd], .int .i64 re]) ?_ rfl ⟨_, _, rfl, Lim.more g2 g5, Lim.more g3 g5, g4⟩
    simp [results, Tryz.results52, k0, k1, k2, go_sem]
  · rw [hbad h0]
    have q1 : (ec == 0) = false := by simp [h0]
    have q2 : (ec != 0) = true := by simp [h0]
    clear h0 HQA HTU hbad
    go_enter Tryz.func52, Tryz.ntmps52
    go_wp2_with fail
    refine HEX.out.mono ?_
    rintro e w2 ⟨he, hS2⟩
    subst he
    have x0 := hS2.qa.c0
    have x1 := hS2.qa.c1
    have x2 := hS2.qa.c2
    have y0 := hS2.qb.c0
    have y1 := hS2.qb.c1
    have y2 := hS2.qb.c2
    have r0 := hS2.qr.c0
    have r1 := hS2.qr.c1
    have r2 := hS2.qr.c2
    have r3 := hS2.qr.fr 0
    have r4 := hS2.qr.fr 1
    have r5 := hS2.qr.fr 2
    go_wp2_with fail
    change bodyPost _ _ _ Exit.ret _ (wroteQ w2 (w.heap.size + 1 + 1) false (.slice none 0 0) (.slice none 0 0))
    have g1 := hS2.qr.write false (.slice none 0 0) (.slice none 0 0)
    have g4 := wroteQ_below hS2.bl (show w.heap.size ≤ w.heap.size + 1 + 1 by omega) false (.slice none 0 0) (.slice none 0 0)
    generalize wroteQ w2 (w.heap.size + 1 + 1) false (.slice none 0 0) (.slice none 0 0) = W9 at g1 g4 ⊢
    have k0 := g1.c0
    have k1 := g1.c1
    have k2 := g1.c2
    refine bodyPost_ret (v := .tuple #[.agg #[.bool false, .slice none 0 0, .slice none 0 0], .int .i64 ec]) ?_ rfl ⟨_, _, rfl, Num.zero _ _, Num.zero _ _, g4⟩
    simp [results, Tryz.results52, k0, k1, k2, go_sem]
end Go.Proofs.YtlababdfdjjjaaaGreatDoor
namespace Go.Proofs.YtlababdfdjjjaaaGreatDoor
open Go.RowKit

/-! The reference's comparison of fractions. -/
structure FS2 (w : World) (na : Bool) (van vad : Value) (nb : Bool) (vbn vbd : Value) (W : World) : Prop where
  qa : QB W w.heap.size na van vad
  qb : QB W (w.heap.size + 1) nb vbn vbd
  bl : Below w.heap.size w W
theorem FS2.drew {w W : World} {na nb : Bool} {van vad vbn vbd : Value} (h : FS2 w na van vad nb vbn vbd W) : FS2 w na van vad nb vbn vbd W.drew := ⟨h.qa, h.qb, h.bl.drew⟩
theorem FS2.below {w W W' : World} {na nb : Bool} {van vad vbn vbd : Value} (h : FS2 w na van vad nb vbn vbd W) (hb : Below W.heap.size W W') : FS2 w na van vad nb vbn vbd W' :=
  ⟨h.qa.below hb h.qa.lt, h.qb.below hb h.qb.lt, h.bl.trans (hb.mono h.bl.size)⟩
def W2 (w : World) (a b : Bool) (n1 d1 n2 d2 : Value) : World := (w.alloc (.cells #[.bool a, n1, d1] 48)).alloc (.cells #[.bool b, n2, d2] 48)
theorem fs2_start (w : World) (a b : Bool) (n1 d1 n2 d2 : Value) : FS2 w a n1 d1 b n2 d2 (W2 w a b n1 d1 n2 d2) := by
  have b1 : Below w.heap.size w (w.alloc (.cells #[.bool a, n1, d1] 48)) := (Below.refl _ w).alloc (Nat.le_refl _) _
  have q1 := QB.new w a n1 d1
  have q2 := QB.new (w.alloc (.cells #[.bool a, n1, d1] 48)) b n2 d2
  have bA := fun (W : World) (o : Obj) => (Below.refl W.heap.size W).alloc (Nat.le_refl _) o
  rw [World.size_alloc] at q2
  exact ⟨q1.below (bA _ _) q1.lt, q2, b1.alloc (by simp) _⟩
theorem W2_size (w : World) (a b : Bool) (n1 d1 n2 d2 : Value) : (W2 w a b n1 d1 n2 d2).heap.size = w.heap.size + 1 + 1 := by simp [W2]
theorem rexW2 (f1 f2 : Fr) (n1 d1 n2 d2 : Value) (w : World) (h1 : FrV w f1 n1 d1) (h2 : FrV w f2 n2 d2) :
    Calls Tryz.prog 107 #[.slice (some ⟨w.heap.size + 1 + 1, 0, none⟩) 2 2] ((W2 w f1.neg f2.neg n1 d1 n2 d2).alloc (.cells #[.bool f1.neg, n1, d1, .bool f2.neg, n2, d2] 48)) fun e w' => e = .returned (.int .i64 (examQW [f1, f2])) ∧ FS2 w f1.neg n1 d1 f2.neg n2 d2 w' := by
  have hF := fs2_start w f1.neg f2.neg n1 d1 n2 d2
  have hex := rexQ2 f1 f2 n1 d1 n2 d2 (W2 w f1.neg f2.neg n1 d1 n2 d2) (h1.up hF.bl) (h2.up hF.bl)
  have hsz := W2_size w f1.neg f2.neg n1 d1 n2 d2
  generalize W2 w f1.neg f2.neg n1 d1 n2 d2 = W at *
  have hbA : Below W.heap.size W (W.alloc (.cells #[.bool f1.neg, n1, d1, .bool f2.neg, n2, d2] 48)) := (Below.refl _ _).alloc (Nat.le_refl _) _
  have hSA := hF.below hbA
  have hszA : (W.alloc (.cells #[.bool f1.neg, n1, d1, .bool f2.neg, n2, d2] 48)).heap.size = w.heap.size + 1 + 1 + 1 := by rw [World.size_alloc, hsz]
  rw [hsz] at hex
  exact hex.mono (fun e w' h => ⟨h.1, hSA.below (by rw [hszA]; exact h.2)⟩)
def signW (s1 s2 : Bool) (c : Int) : Int := if s1 then (if s2 then -c else -1) else (if s2 then 1 else c)
def qcmpW (f1 f2 : Fr) : Int × Int := if examQW [f1, f2] = 0 then (signW f1.neg f2.neg (cmpI (val f1.num * val f2.den) (val f2.num * val f1.den)), 0) else (0, examQW [f1, f2])
theorem cmpI_bd (m n : Nat) : -1 ≤ cmpI m n ∧ cmpI m n ≤ 1 := by unfold cmpI; repeat' split
                                                                 all_goals omega

set_option maxRecDepth 100000 in
set_option maxHeartbeats 4000000 in
theorem rQCmp_any (f1 f2 : Fr) (n1 d1 n2 d2 : Value) (w : World) (h1 : FrV w f1 n1 d1) (h2 : FrV w f2 n2 d2) :
    Calls Tryz.prog 59 #[.agg #[.bool f1.neg, n1, d1], .agg #[.bool f2.neg, n2, d2]] w fun e w' => e = .returned (.tuple #[.int .i64 (qcmpW f1 f2).1, .int .i64 (qcmpW f1 f2).2]) ∧ Below w.heap.size w w' := by
  have hF := fs2_start w f1.neg f2.neg n1 d1 n2 d2
  have hex := rexW2 f1 f2 n1 d1 n2 d2 w h1 h2
  unfold W2 at hF hex
  have hok : examQW [f1, f2] = 0 → ∀ W', Below w.heap.size w W' → _ := fun h0 W' hW' => (⟨(h1.up hW').ok (examQW_ok h0 f1 (by simp)), (h2.up hW').ok (examQW_ok h0 f2 (by simp))⟩ : _ ∧ _)
  have ht1 : examQW [f1, f2] = 0 → ∀ W', Below w.heap.size w W' → Calls Tryz.prog 87 #[n1, d2] W' (RNum0 W' (val f1.num * val f2.den)) := by
    intro h0 W' hW'
    obtain ⟨⟨a1, a2, a3, a4, a5⟩, ⟨b1, b2, b3, b4, b5⟩⟩ := hok h0 W' hW'
    exact rtimes_num a1 b2 (by omega) (by omega)
  have ht2 : examQW [f1, f2] = 0 → ∀ W', Below w.heap.size w W' → Calls Tryz.prog 87 #[n2, d1] W' (RNum0 W' (val f2.num * val f1.den)) := by
    intro h0 W' hW'
    obtain ⟨⟨a1, a2, a3, a4, a5⟩, ⟨b1, b2, b3, b4, b5⟩⟩ := hok h0 W' hW'
    exact rtimes_num b1 a2 (by omega) (by omega)
  have hsz : examQW [f1, f2] = 0 → (dg (val f1.num * val f2.den)).length ≤ 10000 ∧ (dg (val f2.num * val f1.den)).length ≤ 10000 := by
    intro h0
    obtain ⟨⟨a1, a2, a3, a4, a5⟩, ⟨b1, b2, b3, b4, b5⟩⟩ := hok h0 w (Below.refl _ _)
    have m1 := len_mul (val f1.num) (val f2.den)
    have m2 := len_mul (val f2.num) (val f1.den)
    exact ⟨by omega, by omega⟩
  have c0 := hF.qa.c0
  have c1 := hF.qa.c1
  have c2 := hF.qa.c2
  have d0 := hF.qb.c0
  have d1' := hF.qb.c1
  have d2' := hF.qb.c2
  have fn1 := h1.1.1.form
  have fd1 := h1.2.1.form
  have fn2 := h2.1.1.form
  have fd2 := h2.2.1.form
  obtain ⟨A1, e1, rfl, -⟩ := fn1
  obtain ⟨A2, e2, rfl, -⟩ := fd1
  obtain ⟨A3, e3, rfl, -⟩ := fn2
  obtain ⟨A4, e4, rfl, -⟩ := fd2
  unfold qcmpW
  generalize val f1.num * val f2.den = x at *
  generalize val f2.num * val f1.den = y at *
  generalize examQW [f1, f2] = ec at *
  have HEX := Lib.hid hex
  have HT1 := Lib.hid ht1
  have HT2 := Lib.hid ht2
  have HSZ := Lib.hid hsz
  clear hex ht1 ht2 hsz hok hF h1 h2
  generalize f1.neg = s1 at *
  generalize f2.neg = s2 at *
  generalize f1.num.length = l1 at *
  generalize f1.den.length = l2 at *
  generalize f2.num.length = l3 at *
  generalize f2.den.length = l4 at *
  by_cases h0 : ec = 0
  · subst h0
    rw [if_pos rfl]
    have HU1 := Lib.hid (HT1.out rfl)
    have HU2 := Lib.hid (HT2.out rfl)
    obtain ⟨sx, sy⟩ := HSZ.out rfl
    have SX := Lib.hid sx
    have SY := Lib.hid sy
    have hcb := cmpI_bd x y
    obtain ⟨c, hc⟩ : ∃ c, c = cmpI x y := ⟨_, rfl⟩
    rw [← hc] at hcb ⊢
    obtain ⟨hc1, hc2⟩ := hcb
    have HC := Lib.hid hc
    clear HT1 HT2 HSZ sx sy hc
    go_enter Tryz.func59, Tryz.ntmps59
    go_wp2_with fail
    refine HEX.out.mono ?_
    rintro e w2 ⟨he, hS2⟩
    subst he
    have x0 := hS2.qa.c0
    have x1 := hS2.qa.c1
    have x2 := hS2.qa.c2
    have y0 := hS2.qb.c0
    have y1 := hS2.qb.c1
    have y2 := hS2.qb.c2
    go_wp2_with fail
    go_region_held3 (fun w' => w'.cell? ⟨w.heap.size, 0, none⟩ = some (.bool s1) ∧ w'.cell? ⟨w.heap.size, 1, none⟩ = some (.slice A1 l1 e1) ∧ w'.cell? ⟨w.heap.size, 2, none⟩ = some (.slice A2 l2 e2) ∧ w'.cell? ⟨w.heap.size + 1, 0, none⟩ = some (.bool s2) ∧ w'.cell? ⟨w.heap.size + 1, 1, none⟩ = some (.slice A3 l3 e3) ∧ w'.cell? ⟨w.heap.size + 1, 2, none⟩ = some (.slice A4 l4 e4))
      (((try dsimp only); refine ⟨?_, ?_, ?_, ?_, ?_, ?_⟩ <;> first | with_reducible assumption | with_reducible exact kpx0 _ _ _ | with_reducible exact kpx1 _ _ _ | with_reducible exact kpx2 _ _ _ | with_reducible exact kpy0 _ _ _ | with_reducible exact kpy1 _ _ _ | with_reducible exact kpy2 _ _ _ | go_keep))
      (first
        | (go_at_call 87; refine Calls.mono (HU1.out _ (FS2.bl hS2.drew)) ?_; rintro e w3 ⟨vx, he, hvx, hba⟩; subst he; have hSa := FS2.below hS2.drew hba; have x0a := hSa.qa.c0; have x1a := hSa.qa.c1; have x2a := hSa.qa.c2; have y0a := hSa.qb.c0; have y1a := hSa.qb.c1; have y2a := hSa.qb.c2; clear HU1)
        | (go_at_call 87; refine Calls.mono (HU2.out _ (FS2.bl hSa)) ?_; rintro e w4 ⟨vy, he, hvy, hbb⟩; subst he; have hSb := FS2.below hSa hbb; have x0b := hSb.qa.c0; have x1b := hSb.qa.c1; have x2b := hSb.qa.c2; have y0b := hSb.qb.c0; have y1b := hSb.qb.c1; have y2b := hSb.qb.c2; clear HU2; have hvx4 := Lim.up hvx hbb; have HOR := Lib.hid (rorder_num hvx4 hvy (by have := SX.out; omega) (by have := SY.out; omega)))
        | (go_at_call 89; refine Calls.mono (HOR.out) ?_; rw [← HC.out]; rintro e w5 ⟨he, rfl⟩; subst he; clear HOR))
    have HFIN := Lib.hid hSb.bl
    clear hvx hvx4 hvy hba hbb
    cases s1
    all_goals cases s2
    all_goals
      go_wp2_with fail
      go_ret2
      exact ⟨rfl, HFIN.out⟩
  · rw [if_neg h0]
    have q1 : (ec == 0) = false := by simp [h0]
    have q2 : (ec != 0) = true := by simp [h0]
    clear h0 HT1 HT2 HSZ
    go_enter Tryz.func59, Tryz.ntmps59
    go_wp2_with fail
    refine HEX.out.mono ?_
    rintro e w2 ⟨he, hS2⟩
    subst he
    have x0 := hS2.qa.c0
    have x1 := hS2.qa.c1
    have x2 := hS2.qa.c2
    have y0 := hS2.qb.c0
    have y1 := hS2.qb.c1
    have y2 := hS2.qb.c2
    go_wp2_with fail
    go_ret2
    exact ⟨rfl, hS2.bl⟩
end Go.Proofs.YtlababdfdjjjaaaGreatDoor
