import Derived.Test.YtlababdfdjjjaaaGreatDoorX4
namespace Go.Proofs.YtlababdfdjjjaaaGreatDoor
open Go.RowKit

/-! The reference's QPow, the rest. -/
set_option maxRecDepth 100000 in
set_option maxHeartbeats 4000000 in
theorem rQPow_neg (f : Fr) (vn vd : Value) (k : Nat) (w : World) (h1 : FrV w f vn vd) (hx : examQW [f] = 0) (hk0 : 1 ≤ k) (hk : k ≤ 2000) (hz : val f.num ≠ 0) (hl1 : (dg (val f.den ^ k)).length ≤ 512) (hl2 : (dg (val f.num ^ k)).length ≤ 512) :
    Calls Tryz.prog 67 #[.agg #[.bool f.neg, vn, vd], .int .i64 (-(k : Int))] w (ResF w (lowW (f.neg && decide (k % 2 = 1)) (val f.den ^ k) (val f.num ^ k))) := by
  have hP := pqr_start w f.neg vn vd
  obtain ⟨W, hW⟩ : ∃ W, W = ((w.alloc (.cells #[.bool f.neg, vn, vd] 48)).alloc (.cells #[.bool false, .slice none 0 0, .slice none 0 0] 48)) := ⟨_, rfl⟩
  rw [← hW] at hP
  have hsz : W.heap.size = w.heap.size + 1 + 1 := by rw [hW]; simp
  have hex := rexQ1 f vn vd W (h1.up hP.bl)
  have hbA : Below W.heap.size W (W.alloc (.cells #[.bool f.neg, vn, vd] 48)) := (Below.refl _ _).alloc (Nat.le_refl _) _
  have hSA := hP.below hbA
  have hszA : (W.alloc (.cells #[.bool f.neg, vn, vd] 48)).heap.size = w.heap.size + 1 + 1 + 1 := by rw [World.size_alloc, hsz]
  rw [hsz] at hex
  replace hex := hex.mono (fun e w' (h : e = .returned (.int .i64 (examQW [f])) ∧ _) => (⟨h.1, hSA.below (by rw [hszA]; exact h.2)⟩ : e = .returned (.int .i64 (examQW [f])) ∧ PQr w f.neg vn vd w'))
  rw [hx] at hex
  have hok := fun W' (hW' : Below w.heap.size w W') => (h1.up hW').ok (examQW_ok hx f (by simp))
  have hp1 : ∀ W', Below w.heap.size w W' → _ := fun W' hW' => rpower_fits (hok W' hW').2.1 (hok W' hW').2.2.2.2 (by omega) hl1
  have hp2 : ∀ W', Below w.heap.size w W' → _ := fun W' hW' => rpower_fits (hok W' hW').1 (hok W' hW').2.2.2.1 (by omega) hl2
  have hden : val f.num ^ k ≠ 0 := Nat.pos_iff_ne_zero.1 (Nat.pow_pos (by omega))
  have hnz : f.num.length ≠ 0 := fun h => hz (by rw [List.eq_nil_of_length_eq_zero h]; rfl)
  have hlo := fun W' u v (hu : Num W' W'.heap.size u (val f.den ^ k)) (hv : Num W' W'.heap.size v (val f.num ^ k)) => rlow_num (W := W') (f.neg && decide (k % 2 = 1)) hu hv hden (by omega) (by omega)
  have c0 := hP.qa.c0
  have c1 := hP.qa.c1
  have c2 := hP.qa.c2
  obtain ⟨A1, e1, rfl, -⟩ := h1.1.1.form
  obtain ⟨A2, e2, rfl, -⟩ := h1.2.1.form
  have HEX := Lib.hid hex
  have HP1 := Lib.hid hp1
  have HP2 := Lib.hid hp2
  have HLO := Lib.hid hlo
  clear hex hp1 hp2 hlo hok hbA hSA hszA hsz hP h1 hx hl1 hl2 hden hz
  generalize lowW (f.neg && decide (k % 2 = 1)) (val f.den ^ k) (val f.num ^ k) = fr at *
  generalize val f.den ^ k = x at *
  generalize val f.num ^ k = y at *
  obtain ⟨sg, hsg⟩ : ∃ sg, sg = (f.neg && decide (k % 2 = 1)) := ⟨_, rfl⟩
  rw [← hsg] at HLO
  generalize f.neg = s1 at *
  generalize f.num.length = l1 at *
  generalize f.den.length = l2 at *
  have hnzI : ((l1 : Int) == 0) = false := beq_eq_false_iff_ne.2 (by omega)
  obtain ⟨K, hK⟩ : ∃ K : Int, K = -(k : Int) := ⟨_, rfl⟩
  rw [← hK]
  have k1 : K < 0 := by omega
  have k2 : ¬ K < -2000 := by omega
  have k3 : ¬ 2000 < K := by omega
  have hwr : IntKind.i64.wrap (-K) = (k : Int) := by rw [hK, Int.neg_neg]; exact IntWalk.i64_in _ (by omega)
  have hng : -K = (k : Int) := by omega
  have hmax : max K (k : Int) = (k : Int) := by omega
  have kb : k < 4294967296 := by omega
  obtain ⟨rs, rm, rn, re⟩ := fr
  subst hW
  cases s1
  · obtain rfl : sg = false := by rw [hsg]; rfl
    clear hsg hK
    go_enter Tryz.func67, Tryz.ntmps67
    go_wp2_with fail
    refine HEX.out.mono ?_
    rintro e w2 ⟨he, hP2⟩
    subst he
    have x0 := hP2.qa.c0
    have x1 := hP2.qa.c1
    have x2 := hP2.qa.c2
    go_wp2_with fail
    go_region_held3 (fun w' => w'.cell? ⟨w.heap.size, 1, none⟩ = some (.slice A1 l1 e1) ∧ w'.cell? ⟨w.heap.size, 2, none⟩ = some (.slice A2 l2 e2))
      (refine ⟨?_, ?_⟩ <;> first | with_reducible assumption | go_keep)
      (fail)
    have hP3 := hP2.drew
    clear hP2 x0 x1 x2
    generalize w2.drew = w3 at *
    go_wp2_with fail
    refine (HP1.out w3 hP3.bl).mono ?_
    rintro e w4 ⟨A3, n3, c3, he, hn4, hb4⟩
    subst he
    have hP4 := hP3.below hb4
    go_wp2_with fail
    refine (HP2.out w4 hP4.bl).mono ?_
    rintro e w5 ⟨A5, n5, c5, he, hn5, hb5⟩
    subst he
    have hP5 := hP4.below hb5
    have hn45 := hn4.up hb5
    have y0 := hP5.qa.c0
    have hcall := Lib.hid (HLO.out w5 _ _ hn45 hn5)
    have HP5 := Lib.hid hP5
    clear hP3 hP4 hP5 hn4 hn5 hn45 hb4 hb5
    go_wp2_with fail
    refine hcall.out.mono ?_
    rintro e w6 ⟨Bn, ln, cn, Bd, ld, cd, he, hvn, hvd, hb6⟩
    subst he
    have hP6 := HP5.out.below hb6
    have r0 := hP6.qr.c0
    have r1 := hP6.qr.c1
    have r2 := hP6.qr.c2
    have r3 := hP6.qr.fr 0
    have r4 := hP6.qr.fr 1
    have r5 := hP6.qr.fr 2
    go_wp2_with fail
    change bodyPost _ _ _ Exit.ret _ (wroteQ w6 (w.heap.size + 1) rs (.slice Bn ln cn) (.slice Bd ld cd))
    have g1 := hP6.qr.write rs (.slice Bn ln cn) (.slice Bd ld cd)
    have g2 : Num (wroteQ w6 (w.heap.size + 1) rs (.slice Bn ln cn) (.slice Bd ld cd)) w6.heap.size (.slice Bn ln cn) rm := Lim.wroteQ hvn hP6.qr rs _ _
    have g3 : Num (wroteQ w6 (w.heap.size + 1) rs (.slice Bn ln cn) (.slice Bd ld cd)) w6.heap.size (.slice Bd ld cd) rn := Lim.wroteQ hvd hP6.qr rs _ _
    have g4 := wroteQ_below hP6.bl (show w.heap.size ≤ w.heap.size + 1 by omega) rs (.slice Bn ln cn) (.slice Bd ld cd)
    have g5 : w6.heap.size ≤ (wroteQ w6 (w.heap.size + 1) rs (.slice Bn ln cn) (.slice Bd ld cd)).heap.size := by simp [wroteQ, World.setCell]
    generalize wroteQ w6 (w.heap.size + 1) rs (.slice Bn ln cn) (.slice Bd ld cd) = W9 at g1 g2 g3 g4 g5 ⊢
    have z0 := g1.c0
    have z1 := g1.c1
    have z2 := g1.c2
    refine bodyPost_ret (v := .tuple #[.agg #[.bool rs, .slice Bn ln cn, .slice Bd ld cd], .int .i64 re]) ?_ rfl ⟨Bn, ln, cn, Bd, ld, cd, rfl, Lim.more g2 g5, Lim.more g3 g5, g4⟩
    simp [results, Tryz.results67, z0, z1, z2, go_sem]
  · by_cases hodd : k % 2 = 1
    · obtain rfl : sg = true := by rw [hsg, decide_eq_true hodd]; rfl
      have hp : K.tmod 2 = -1 := by rw [hK, Int.neg_tmod, Int.tmod_eq_emod_of_nonneg (by omega)]; omega
      have hpw : IntKind.i64.wrap (K.tmod 2) = -1 := by rw [hp]; rfl
      clear hsg hodd hK
      go_enter Tryz.func67, Tryz.ntmps67
      go_wp2_with fail
      refine HEX.out.mono ?_
      rintro e w2 ⟨he, hP2⟩
      subst he
      have x0 := hP2.qa.c0
      have x1 := hP2.qa.c1
      have x2 := hP2.qa.c2
      go_wp2_with fail
      go_region_held3 (fun w' => w'.cell? ⟨w.heap.size, 1, none⟩ = some (.slice A1 l1 e1) ∧ w'.cell? ⟨w.heap.size, 2, none⟩ = some (.slice A2 l2 e2))
        (refine ⟨?_, ?_⟩ <;> first | with_reducible assumption | go_keep)
        (fail)
      have hP3 := hP2.drew
      clear hP2 x0 x1 x2
      generalize w2.drew = w3 at *
      go_wp2_with fail
      refine (HP1.out w3 hP3.bl).mono ?_
      rintro e w4 ⟨A3, n3, c3, he, hn4, hb4⟩
      subst he
      have hP4 := hP3.below hb4
      go_wp2_with fail
      refine (HP2.out w4 hP4.bl).mono ?_
      rintro e w5 ⟨A5, n5, c5, he, hn5, hb5⟩
      subst he
      have hP5 := hP4.below hb5
      have hn45 := hn4.up hb5
      have y0 := hP5.qa.c0
      have hcall := Lib.hid (HLO.out w5 _ _ hn45 hn5)
      have HP5 := Lib.hid hP5
      clear hP3 hP4 hP5 hn4 hn5 hn45 hb4 hb5
      go_wp2_with fail
      refine hcall.out.mono ?_
      rintro e w6 ⟨Bn, ln, cn, Bd, ld, cd, he, hvn, hvd, hb6⟩
      subst he
      have hP6 := HP5.out.below hb6
      have r0 := hP6.qr.c0
      have r1 := hP6.qr.c1
      have r2 := hP6.qr.c2
      have r3 := hP6.qr.fr 0
      have r4 := hP6.qr.fr 1
      have r5 := hP6.qr.fr 2
      go_wp2_with fail
      change bodyPost _ _ _ Exit.ret _ (wroteQ w6 (w.heap.size + 1) rs (.slice Bn ln cn) (.slice Bd ld cd))
      have g1 := hP6.qr.write rs (.slice Bn ln cn) (.slice Bd ld cd)
      have g2 : Num (wroteQ w6 (w.heap.size + 1) rs (.slice Bn ln cn) (.slice Bd ld cd)) w6.heap.size (.slice Bn ln cn) rm := Lim.wroteQ hvn hP6.qr rs _ _
      have g3 : Num (wroteQ w6 (w.heap.size + 1) rs (.slice Bn ln cn) (.slice Bd ld cd)) w6.heap.size (.slice Bd ld cd) rn := Lim.wroteQ hvd hP6.qr rs _ _
      have g4 := wroteQ_below hP6.bl (show w.heap.size ≤ w.heap.size + 1 by omega) rs (.slice Bn ln cn) (.slice Bd ld cd)
      have g5 : w6.heap.size ≤ (wroteQ w6 (w.heap.size + 1) rs (.slice Bn ln cn) (.slice Bd ld cd)).heap.size := by simp [wroteQ, World.setCell]
      generalize wroteQ w6 (w.heap.size + 1) rs (.slice Bn ln cn) (.slice Bd ld cd) = W9 at g1 g2 g3 g4 g5 ⊢
      have z0 := g1.c0
      have z1 := g1.c1
      have z2 := g1.c2
      refine bodyPost_ret (v := .tuple #[.agg #[.bool rs, .slice Bn ln cn, .slice Bd ld cd], .int .i64 re]) ?_ rfl ⟨Bn, ln, cn, Bd, ld, cd, rfl, Lim.more g2 g5, Lim.more g3 g5, g4⟩
      simp [results, Tryz.results67, z0, z1, z2, go_sem]
    · obtain rfl : sg = false := by rw [hsg, decide_eq_false hodd]; rfl
      have hp : K.tmod 2 = 0 := by rw [hK, Int.neg_tmod, Int.tmod_eq_emod_of_nonneg (by omega)]; omega
      have hpw : IntKind.i64.wrap (K.tmod 2) = 0 := by rw [hp]; rfl
      clear hsg hodd hK
      go_enter Tryz.func67, Tryz.ntmps67
      go_wp2_with fail
      refine HEX.out.mono ?_
      rintro e w2 ⟨he, hP2⟩
      subst he
      have x0 := hP2.qa.c0
      have x1 := hP2.qa.c1
      have x2 := hP2.qa.c2
      go_wp2_with fail
      go_region_held3 (fun w' => w'.cell? ⟨w.heap.size, 1, none⟩ = some (.slice A1 l1 e1) ∧ w'.cell? ⟨w.heap.size, 2, none⟩ = some (.slice A2 l2 e2))
        (refine ⟨?_, ?_⟩ <;> first | with_reducible assumption | go_keep)
        (fail)
      have hP3 := hP2.drew
      clear hP2 x0 x1 x2
      generalize w2.drew = w3 at *
      go_wp2_with fail
      refine (HP1.out w3 hP3.bl).mono ?_
      rintro e w4 ⟨A3, n3, c3, he, hn4, hb4⟩
      subst he
      have hP4 := hP3.below hb4
      go_wp2_with fail
      refine (HP2.out w4 hP4.bl).mono ?_
      rintro e w5 ⟨A5, n5, c5, he, hn5, hb5⟩
      subst he
      have hP5 := hP4.below hb5
      have hn45 := hn4.up hb5
      have y0 := hP5.qa.c0
      have hcall := Lib.hid (HLO.out w5 _ _ hn45 hn5)
      have HP5 := Lib.hid hP5
      clear hP3 hP4 hP5 hn4 hn5 hn45 hb4 hb5
      go_wp2_with fail
      refine hcall.out.mono ?_
      rintro e w6 ⟨Bn, ln, cn, Bd, ld, cd, he, hvn, hvd, hb6⟩
      subst he
      have hP6 := HP5.out.below hb6
      have r0 := hP6.qr.c0
      have r1 := hP6.qr.c1
      have r2 := hP6.qr.c2
      have r3 := hP6.qr.fr 0
      have r4 := hP6.qr.fr 1
      have r5 := hP6.qr.fr 2
      go_wp2_with fail
      change bodyPost _ _ _ Exit.ret _ (wroteQ w6 (w.heap.size + 1) rs (.slice Bn ln cn) (.slice Bd ld cd))
      have g1 := hP6.qr.write rs (.slice Bn ln cn) (.slice Bd ld cd)
      have g2 : Num (wroteQ w6 (w.heap.size + 1) rs (.slice Bn ln cn) (.slice Bd ld cd)) w6.heap.size (.slice Bn ln cn) rm := Lim.wroteQ hvn hP6.qr rs _ _
      have g3 : Num (wroteQ w6 (w.heap.size + 1) rs (.slice Bn ln cn) (.slice Bd ld cd)) w6.heap.size (.slice Bd ld cd) rn := Lim.wroteQ hvd hP6.qr rs _ _
      have g4 := wroteQ_below hP6.bl (show w.heap.size ≤ w.heap.size + 1 by omega) rs (.slice Bn ln cn) (.slice Bd ld cd)
      have g5 : w6.heap.size ≤ (wroteQ w6 (w.heap.size + 1) rs (.slice Bn ln cn) (.slice Bd ld cd)).heap.size := by simp [wroteQ, World.setCell]
      generalize wroteQ w6 (w.heap.size + 1) rs (.slice Bn ln cn) (.slice Bd ld cd) = W9 at g1 g2 g3 g4 g5 ⊢
      have z0 := g1.c0
      have z1 := g1.c1
      have z2 := g1.c2
      refine bodyPost_ret (v := .tuple #[.agg #[.bool rs, .slice Bn ln cn, .slice Bd ld cd], .int .i64 re]) ?_ rfl ⟨Bn, ln, cn, Bd, ld, cd, rfl, Lim.more g2 g5, Lim.more g3 g5, g4⟩
      simp [results, Tryz.results67, z0, z1, z2, go_sem]

set_option maxRecDepth 100000 in
set_option maxHeartbeats 4000000 in
theorem rQPow_bad (f : Fr) (vn vd : Value) (k : Int) (w : World) (h1 : FrV w f vn vd) (hx : examQW [f] ≠ 0) :
    Calls Tryz.prog 67 #[.agg #[.bool f.neg, vn, vd], .int .i64 k] w (ResW w (false, 0, 0, examQW [f])) := by
  have hP := pqr_start w f.neg vn vd
  obtain ⟨W, hW⟩ : ∃ W, W = ((w.alloc (.cells #[.bool f.neg, vn, vd] 48)).alloc (.cells #[.bool false, .slice none 0 0, .slice none 0 0] 48)) := ⟨_, rfl⟩
  rw [← hW] at hP
  have hsz : W.heap.size = w.heap.size + 1 + 1 := by rw [hW]; simp
  have hex := rexQ1 f vn vd W (h1.up hP.bl)
  have hbA : Below W.heap.size W (W.alloc (.cells #[.bool f.neg, vn, vd] 48)) := (Below.refl _ _).alloc (Nat.le_refl _) _
  have hSA := hP.below hbA
  have hszA : (W.alloc (.cells #[.bool f.neg, vn, vd] 48)).heap.size = w.heap.size + 1 + 1 + 1 := by rw [World.size_alloc, hsz]
  rw [hsz] at hex
  replace hex := hex.mono (fun e w' (h : e = .returned (.int .i64 (examQW [f])) ∧ _) => (⟨h.1, hSA.below (by rw [hszA]; exact h.2)⟩ : e = .returned (.int .i64 (examQW [f])) ∧ PQr w f.neg vn vd w'))
  have c0 := hP.qa.c0
  have c1 := hP.qa.c1
  have c2 := hP.qa.c2
  obtain ⟨A1, e1, rfl, -⟩ := h1.1.1.form
  obtain ⟨A2, e2, rfl, -⟩ := h1.2.1.form
  generalize examQW [f] = ec at *
  have q1 : (ec == 0) = false := by simp [hx]
  have q2 : (ec != 0) = true := by simp [hx]
  clear hx
  have HEX := Lib.hid hex
  clear hex hbA hSA hszA hsz hP h1
  generalize f.neg = s1 at *
  generalize f.num.length = l1 at *
  generalize f.den.length = l2 at *
  subst hW
  go_enter Tryz.func67, Tryz.ntmps67
  go_wp2_with fail
  refine HEX.out.mono ?_
  rintro e w2 ⟨he, hP2⟩
  subst he
  have x0 := hP2.qa.c0
  have x1 := hP2.qa.c1
  have x2 := hP2.qa.c2
  have r0 := hP2.qr.c0
  have r1 := hP2.qr.c1
  have r2 := hP2.qr.c2
  have r3 := hP2.qr.fr 0
  have r4 := hP2.qr.fr 1
  have r5 := hP2.qr.fr 2
  go_wp2_with fail
  change bodyPost _ _ _ Exit.ret _ (wroteQ w2 (w.heap.size + 1) false (.slice none 0 0) (.slice none 0 0))
  have g1 := hP2.qr.write false (.slice none 0 0) (.slice none 0 0)
  have g4 := wroteQ_below hP2.bl (show w.heap.size ≤ w.heap.size + 1 by omega) false (.slice none 0 0) (.slice none 0 0)
  generalize wroteQ w2 (w.heap.size + 1) false (.slice none 0 0) (.slice none 0 0) = W9 at g1 g4 ⊢
  have z0 := g1.c0
  have z1 := g1.c1
  have z2 := g1.c2
  refine bodyPost_ret (v := .tuple #[.agg #[.bool false, .slice none 0 0, .slice none 0 0], .int .i64 ec]) ?_ rfl ⟨_, _, rfl, Num.zero _ _, Num.zero _ _, g4⟩
  simp [results, Tryz.results67, z0, z1, z2, go_sem]

set_option maxRecDepth 100000 in
set_option maxHeartbeats 4000000 in
theorem rQPow_lo (f : Fr) (vn vd : Value) (k : Int) (w : World) (h1 : FrV w f vn vd) (hx : examQW [f] = 0) (hk : k < -2000) :
    Calls Tryz.prog 67 #[.agg #[.bool f.neg, vn, vd], .int .i64 k] w (ResW w (false, 0, 0, 2)) := by
  have hP := pqr_start w f.neg vn vd
  obtain ⟨W, hW⟩ : ∃ W, W = ((w.alloc (.cells #[.bool f.neg, vn, vd] 48)).alloc (.cells #[.bool false, .slice none 0 0, .slice none 0 0] 48)) := ⟨_, rfl⟩
  rw [← hW] at hP
  have hsz : W.heap.size = w.heap.size + 1 + 1 := by rw [hW]; simp
  have hex := rexQ1 f vn vd W (h1.up hP.bl)
  have hbA : Below W.heap.size W (W.alloc (.cells #[.bool f.neg, vn, vd] 48)) := (Below.refl _ _).alloc (Nat.le_refl _) _
  have hSA := hP.below hbA
  have hszA : (W.alloc (.cells #[.bool f.neg, vn, vd] 48)).heap.size = w.heap.size + 1 + 1 + 1 := by rw [World.size_alloc, hsz]
  rw [hsz] at hex
  replace hex := hex.mono (fun e w' (h : e = .returned (.int .i64 (examQW [f])) ∧ _) => (⟨h.1, hSA.below (by rw [hszA]; exact h.2)⟩ : e = .returned (.int .i64 (examQW [f])) ∧ PQr w f.neg vn vd w'))
  have c0 := hP.qa.c0
  have c1 := hP.qa.c1
  have c2 := hP.qa.c2
  obtain ⟨A1, e1, rfl, -⟩ := h1.1.1.form
  obtain ⟨A2, e2, rfl, -⟩ := h1.2.1.form
  rw [hx] at hex
  clear hx
  have HEX := Lib.hid hex
  clear hex hbA hSA hszA hsz hP h1
  generalize f.neg = s1 at *
  generalize f.num.length = l1 at *
  generalize f.den.length = l2 at *
  subst hW
  go_enter Tryz.func67, Tryz.ntmps67
  go_wp2_with fail
  refine HEX.out.mono ?_
  rintro e w2 ⟨he, hP2⟩
  subst he
  have x0 := hP2.qa.c0
  have x1 := hP2.qa.c1
  have x2 := hP2.qa.c2
  have r0 := hP2.qr.c0
  have r1 := hP2.qr.c1
  have r2 := hP2.qr.c2
  have r3 := hP2.qr.fr 0
  have r4 := hP2.qr.fr 1
  have r5 := hP2.qr.fr 2
  go_wp2_with fail
  change bodyPost _ _ _ Exit.ret _ (wroteQ w2 (w.heap.size + 1) false (.slice none 0 0) (.slice none 0 0))
  have g1 := hP2.qr.write false (.slice none 0 0) (.slice none 0 0)
  have g4 := wroteQ_below hP2.bl (show w.heap.size ≤ w.heap.size + 1 by omega) false (.slice none 0 0) (.slice none 0 0)
  generalize wroteQ w2 (w.heap.size + 1) false (.slice none 0 0) (.slice none 0 0) = W9 at g1 g4 ⊢
  have z0 := g1.c0
  have z1 := g1.c1
  have z2 := g1.c2
  refine bodyPost_ret (v := .tuple #[.agg #[.bool false, .slice none 0 0, .slice none 0 0], .int .i64 2]) ?_ rfl ⟨_, _, rfl, Num.zero _ _, Num.zero _ _, g4⟩
  simp [results, Tryz.results67, z0, z1, z2, go_sem]

set_option maxRecDepth 100000 in
set_option maxHeartbeats 4000000 in
theorem rQPow_hi (f : Fr) (vn vd : Value) (k : Int) (w : World) (h1 : FrV w f vn vd) (hx : examQW [f] = 0) (hk : 2000 < k) :
    Calls Tryz.prog 67 #[.agg #[.bool f.neg, vn, vd], .int .i64 k] w (ResW w (false, 0, 0, 2)) := by
  have hP := pqr_start w f.neg vn vd
  obtain ⟨W, hW⟩ : ∃ W, W = ((w.alloc (.cells #[.bool f.neg, vn, vd] 48)).alloc (.cells #[.bool false, .slice none 0 0, .slice none 0 0] 48)) := ⟨_, rfl⟩
  rw [← hW] at hP
  have hsz : W.heap.size = w.heap.size + 1 + 1 := by rw [hW]; simp
  have hex := rexQ1 f vn vd W (h1.up hP.bl)
  have hbA : Below W.heap.size W (W.alloc (.cells #[.bool f.neg, vn, vd] 48)) := (Below.refl _ _).alloc (Nat.le_refl _) _
  have hSA := hP.below hbA
  have hszA : (W.alloc (.cells #[.bool f.neg, vn, vd] 48)).heap.size = w.heap.size + 1 + 1 + 1 := by rw [World.size_alloc, hsz]
  rw [hsz] at hex
  replace hex := hex.mono (fun e w' (h : e = .returned (.int .i64 (examQW [f])) ∧ _) => (⟨h.1, hSA.below (by rw [hszA]; exact h.2)⟩ : e = .returned (.int .i64 (examQW [f])) ∧ PQr w f.neg vn vd w'))
  have c0 := hP.qa.c0
  have c1 := hP.qa.c1
  have c2 := hP.qa.c2
  obtain ⟨A1, e1, rfl, -⟩ := h1.1.1.form
  obtain ⟨A2, e2, rfl, -⟩ := h1.2.1.form
  rw [hx] at hex
  clear hx
  have HEX := Lib.hid hex
  clear hex hbA hSA hszA hsz hP h1
  generalize f.neg = s1 at *
  generalize f.num.length = l1 at *
  generalize f.den.length = l2 at *
  have hk2 : ¬ k < -2000 := by omega
  subst hW
  go_enter Tryz.func67, Tryz.ntmps67
  go_wp2_with fail
  refine HEX.out.mono ?_
  rintro e w2 ⟨he, hP2⟩
  subst he
  have x0 := hP2.qa.c0
  have x1 := hP2.qa.c1
  have x2 := hP2.qa.c2
  have r0 := hP2.qr.c0
  have r1 := hP2.qr.c1
  have r2 := hP2.qr.c2
  have r3 := hP2.qr.fr 0
  have r4 := hP2.qr.fr 1
  have r5 := hP2.qr.fr 2
  go_wp2_with fail
  change bodyPost _ _ _ Exit.ret _ (wroteQ w2 (w.heap.size + 1) false (.slice none 0 0) (.slice none 0 0))
  have g1 := hP2.qr.write false (.slice none 0 0) (.slice none 0 0)
  have g4 := wroteQ_below hP2.bl (show w.heap.size ≤ w.heap.size + 1 by omega) false (.slice none 0 0) (.slice none 0 0)
  generalize wroteQ w2 (w.heap.size + 1) false (.slice none 0 0) (.slice none 0 0) = W9 at g1 g4 ⊢
  have z0 := g1.c0
  have z1 := g1.c1
  have z2 := g1.c2
  refine bodyPost_ret (v := .tuple #[.agg #[.bool false, .slice none 0 0, .slice none 0 0], .int .i64 2]) ?_ rfl ⟨_, _, rfl, Num.zero _ _, Num.zero _ _, g4⟩
  simp [results, Tryz.results67, z0, z1, z2, go_sem]

set_option maxRecDepth 100000 in
set_option maxHeartbeats 4000000 in
theorem rQPow_none (f : Fr) (vn vd : Value) (k : Int) (w : World) (h1 : FrV w f vn vd) (hx : examQW [f] = 0) (hk1 : -2000 ≤ k) (hk2 : k < 0) (hz : f.num.length = 0) :
    Calls Tryz.prog 67 #[.agg #[.bool f.neg, vn, vd], .int .i64 k] w (ResW w (false, 0, 0, 4)) := by
  have hP := pqr_start w f.neg vn vd
  obtain ⟨W, hW⟩ : ∃ W, W = ((w.alloc (.cells #[.bool f.neg, vn, vd] 48)).alloc (.cells #[.bool false, .slice none 0 0, .slice none 0 0] 48)) := ⟨_, rfl⟩
  rw [← hW] at hP
  have hsz : W.heap.size = w.heap.size + 1 + 1 := by rw [hW]; simp
  have hex := rexQ1 f vn vd W (h1.up hP.bl)
  have hbA : Below W.heap.size W (W.alloc (.cells #[.bool f.neg, vn, vd] 48)) := (Below.refl _ _).alloc (Nat.le_refl _) _
  have hSA := hP.below hbA
  have hszA : (W.alloc (.cells #[.bool f.neg, vn, vd] 48)).heap.size = w.heap.size + 1 + 1 + 1 := by rw [World.size_alloc, hsz]
  rw [hsz] at hex
  replace hex := hex.mono (fun e w' (h : e = .returned (.int .i64 (examQW [f])) ∧ _) => (⟨h.1, hSA.below (by rw [hszA]; exact h.2)⟩ : e = .returned (.int .i64 (examQW [f])) ∧ PQr w f.neg vn vd w'))
  have c0 := hP.qa.c0
  have c1 := hP.qa.c1
  have c2 := hP.qa.c2
  obtain ⟨A1, e1, rfl, -⟩ := h1.1.1.form
  obtain ⟨A2, e2, rfl, -⟩ := h1.2.1.form
  rw [hx] at hex
  clear hx
  have HEX := Lib.hid hex
  clear hex hbA hSA hszA hsz hP h1
  generalize f.neg = s1 at *
  generalize f.num.length = l1 at *
  generalize f.den.length = l2 at *
  subst hz
  have hk3 : ¬ k < -2000 := by omega
  have hk4 : ¬ 2000 < k := by omega
  subst hW
  go_enter Tryz.func67, Tryz.ntmps67
  go_wp2_with fail
  refine HEX.out.mono ?_
  rintro e w2 ⟨he, hP2⟩
  subst he
  have x0 := hP2.qa.c0
  have x1 := hP2.qa.c1
  have x2 := hP2.qa.c2
  have r0 := hP2.qr.c0
  have r1 := hP2.qr.c1
  have r2 := hP2.qr.c2
  have r3 := hP2.qr.fr 0
  have r4 := hP2.qr.fr 1
  have r5 := hP2.qr.fr 2
  go_wp2_with fail
  change bodyPost _ _ _ Exit.ret _ (wroteQ w2 (w.heap.size + 1) false (.slice none 0 0) (.slice none 0 0))
  have g1 := hP2.qr.write false (.slice none 0 0) (.slice none 0 0)
  have g4 := wroteQ_below hP2.bl (show w.heap.size ≤ w.heap.size + 1 by omega) false (.slice none 0 0) (.slice none 0 0)
  generalize wroteQ w2 (w.heap.size + 1) false (.slice none 0 0) (.slice none 0 0) = W9 at g1 g4 ⊢
  have z0 := g1.c0
  have z1 := g1.c1
  have z2 := g1.c2
  refine bodyPost_ret (v := .tuple #[.agg #[.bool false, .slice none 0 0, .slice none 0 0], .int .i64 4]) ?_ rfl ⟨_, _, rfl, Num.zero _ _, Num.zero _ _, g4⟩
  simp [results, Tryz.results67, z0, z1, z2, go_sem]
end Go.Proofs.YtlababdfdjjjaaaGreatDoor
