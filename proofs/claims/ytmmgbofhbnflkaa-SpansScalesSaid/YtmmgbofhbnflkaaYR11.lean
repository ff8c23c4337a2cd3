import Derived.Test.YtmmgbofhbnflkaaYR10
namespace Go.Proofs.Ytmmgbofhbnflkaa
open Go.RowKit

/-! The reference's power of a fraction, where it fits. -/
structure PQr (w : World) (neg : Bool) (vn vd : Value) (W : World) : Prop where
  qa : QB W w.heap.size neg vn vd
  qr : QB W (w.heap.size + 1) false (.slice none 0 0) (.slice none 0 0)
  bl : Below w.heap.size w W
theorem PQr.below {w W W' : World} {neg : Bool} {vn vd : Value} (h : PQr w neg vn vd W) (hb : Below W.heap.size W W') : PQr w neg vn vd W' := ⟨h.qa.below hb h.qa.lt, h.qr.below hb h.qr.lt, h.bl.trans (hb.mono h.bl.size)⟩
theorem PQr.drew {w W : World} {neg : Bool} {vn vd : Value} (h : PQr w neg vn vd W) : PQr w neg vn vd W.drew := ⟨h.qa, h.qr, h.bl.drew⟩
theorem pqr_start (w : World) (neg : Bool) (vn vd : Value) : PQr w neg vn vd ((w.alloc (.cells #[.bool neg, vn, vd] 61)).alloc (.cells #[.bool false, .slice none 0 0, .slice none 0 0] 61)) := by
  have b1 : Below w.heap.size w (w.alloc (.cells #[.bool neg, vn, vd] 61)) := (Below.refl _ w).alloc (Nat.le_refl _) _
  have q1 := QB.new w neg vn vd
  have q2 := QB.new (w.alloc (.cells #[.bool neg, vn, vd] 61)) false (.slice none 0 0) (.slice none 0 0)
  rw [World.size_alloc] at q2
  exact ⟨q1.below ((Below.refl _ _).alloc (Nat.le_refl _) _) q1.lt, q2, b1.alloc (by simp) _⟩
theorem rpower_fits {va : Value} {m k : Nat} {w : World} (ha : Num w w.heap.size va m) (hla : (dg m).length ≤ 512) (hk : k ≤ 100000) (hl : (dg (m ^ k)).length ≤ 512) :
    Calls Try.prog 80 #[va, .int .i64 (k : Int)] w fun e w' => ∃ (A : Option Addr) (n c : Nat), e = .returned (.tuple #[.slice A n c, .bool true]) ∧ Num w' w'.heap.size (.slice A n c) (m ^ k) ∧ Below w.heap.size w w' := by
  refine (rpower_any va m k w ha hla hk).mono fun e w' ⟨A, n, c, he, hn, hb⟩ => ⟨A, n, c, ?_, ?_, hb⟩
  · rw [decide_eq_true hl] at he; exact he
  · rw [if_pos hl] at hn; exact hn

set_option maxRecDepth 100000 in
set_option maxHeartbeats 4000000 in
theorem rQPow_any (f : Fr) (vn vd : Value) (k : Nat) (w : World) (h1 : FrV w f vn vd) (hx : examQW [f] = 0) (hk : k ≤ 2000) (hl1 : (dg (val f.num ^ k)).length ≤ 512) (hl2 : (dg (val f.den ^ k)).length ≤ 512) :
    Calls Try.prog 57 #[.agg #[.bool f.neg, vn, vd], .int .i64 (k : Int)] w (ResF w (lowW (f.neg && decide (k % 2 = 1)) (val f.num ^ k) (val f.den ^ k))) := by
  have hP := pqr_start w f.neg vn vd
  obtain ⟨W, hW⟩ : ∃ W, W = ((w.alloc (.cells #[.bool f.neg, vn, vd] 61)).alloc (.cells #[.bool false, .slice none 0 0, .slice none 0 0] 61)) := ⟨_, rfl⟩
  rw [← hW] at hP
  have hsz : W.heap.size = w.heap.size + 1 + 1 := by rw [hW]; simp
  have hex := rexQ1 f vn vd W (h1.up hP.bl)
  have hbA : Below W.heap.size W (W.alloc (.cells #[.bool f.neg, vn, vd] 61)) := (Below.refl _ _).alloc (Nat.le_refl _) _
  have hSA := hP.below hbA
  have hszA : (W.alloc (.cells #[.bool f.neg, vn, vd] 61)).heap.size = w.heap.size + 1 + 1 + 1 := by rw [World.size_alloc, hsz]
  rw [hsz] at hex
  replace hex := hex.mono (fun e w' (h : e = .returned (.int .i64 (examQW [f])) ∧ _) => (⟨h.1, hSA.below (by rw [hszA]; exact h.2)⟩ : e = .returned (.int .i64 (examQW [f])) ∧ PQr w f.neg vn vd w'))
  rw [hx] at hex
  have hok := fun W' (hW' : Below w.heap.size w W') => (h1.up hW').ok (examQW_ok hx f (by simp))
  have hp1 : ∀ W', Below w.heap.size w W' → _ := fun W' hW' => rpower_fits (hok W' hW').1 (hok W' hW').2.2.2.1 (by omega) hl1
  have hp2 : ∀ W', Below w.heap.size w W' → _ := fun W' hW' => rpower_fits (hok W' hW').2.1 (hok W' hW').2.2.2.2 (by omega) hl2
  have hden : val f.den ^ k ≠ 0 := Nat.pos_iff_ne_zero.1 (Nat.pow_pos (by have := (hok w (Below.refl _ _)).2.2.1; omega))
  have hlo := fun W' u v (hu : Num W' W'.heap.size u (val f.num ^ k)) (hv : Num W' W'.heap.size v (val f.den ^ k)) => rlow_num (W := W') (f.neg && decide (k % 2 = 1)) hu hv hden (by omega) (by omega)
  have c0 := hP.qa.c0
  have c1 := hP.qa.c1
  have c2 := hP.qa.c2
  obtain ⟨A1, e1, rfl, -⟩ := h1.1.1.form
  obtain ⟨A2, e2, rfl, -⟩ := h1.2.1.form
  have HEX := Lib.hid hex
  have HP1 := Lib.hid hp1
  have HP2 := Lib.hid hp2
  have HLO := Lib.hid hlo
  clear hex hp1 hp2 hlo hok hbA hSA hszA hsz hP h1 hx hl1 hl2 hden
  generalize lowW (f.neg && decide (k % 2 = 1)) (val f.num ^ k) (val f.den ^ k) = fr at *
  generalize val f.num ^ k = x at *
  generalize val f.den ^ k = y at *
  obtain ⟨sg, hsg⟩ : ∃ sg, sg = (f.neg && decide (k % 2 = 1)) := ⟨_, rfl⟩
  rw [← hsg] at HLO
  generalize f.neg = s1 at *
  generalize f.num.length = l1 at *
  generalize f.den.length = l2 at *
  have k0 : (0 : Int) ≤ (k : Int) := Int.natCast_nonneg _
  have kb : k < 4294967296 := by omega
  have hk1 : (k : Int) ≤ 2000 := by omega
  have hk2 : (-2000 : Int) ≤ (k : Int) := by omega
  have hmax : max (k : Int) (-(k : Int)) = (k : Int) := by omega
  have hwr : IntKind.i64.wrap (-(k : Int)) = -(k : Int) := IntWalk.i64_in _ (by omega)
  obtain ⟨rs, rm, rn, re⟩ := fr
  subst hW
  cases s1
  · obtain rfl : sg = false := by rw [hsg]; rfl
    clear hsg
    go_enter Try.func57, Try.ntmps57
    go_wp2_with fail
    refine HEX.out.mono ?_
    rintro e w2 ⟨he, hP2⟩
    subst he
    have x0 := hP2.qa.c0
    have x1 := hP2.qa.c1
    have x2 := hP2.qa.c2
    go_wp2_with fail
    go_region_held3 (fun w' => w'.cell? ⟨w.heap.size, 1, none⟩ = some (.slice A1 l1 e1) ∧ w'.cell? ⟨w.heap.size, 2, none⟩ = some (.slice A2 l2 e2))
      (refine ⟨?_, ?_⟩ <;> first | with_reducible assumption | go_keep)
      (fail)
    have hP3 := hP2.drew
    clear hP2 x0 x1 x2
    generalize w2.drew = w3 at *
    go_wp2_with fail
    refine (HP1.out w3 hP3.bl).mono ?_
    rintro e w4 ⟨A3, n3, c3, he, hn4, hb4⟩
    subst he
    have hP4 := hP3.below hb4
    go_wp2_with fail
    refine (HP2.out w4 hP4.bl).mono ?_
    rintro e w5 ⟨A5, n5, c5, he, hn5, hb5⟩
    subst he
    have hP5 := hP4.below hb5
    have hn45 := hn4.up hb5
    have y0 := hP5.qa.c0
    have hcall := Lib.hid (HLO.out w5 _ _ hn45 hn5)
    have HP5 := Lib.hid hP5
    clear hP3 hP4 hP5 hn4 hn5 hn45 hb4 hb5
    go_wp2_with fail
    refine hcall.out.mono ?_
    rintro e w6 ⟨Bn, ln, cn, Bd, ld, cd, he, hvn, hvd, hb6⟩
    subst he
    have hP6 := HP5.out.below hb6
    have r0 := hP6.qr.c0
    have r1 := hP6.qr.c1
    have r2 := hP6.qr.c2
    have r3 := hP6.qr.fr 0
    have r4 := hP6.qr.fr 1
    have r5 := hP6.qr.fr 2
    go_wp2_with fail
    change bodyPost _ _ _ Exit.ret _ (wroteQ w6 (w.heap.size + 1) rs (.slice Bn ln cn) (.slice Bd ld cd))
    have g1 := hP6.qr.write rs (.slice Bn ln cn) (.slice Bd ld cd)
    have g2 : Num (wroteQ w6 (w.heap.size + 1) rs (.slice Bn ln cn) (.slice Bd ld cd)) w6.heap.size (.slice Bn ln cn) rm := Lim.wroteQ hvn hP6.qr rs _ _
    have g3 : Num (wroteQ w6 (w.heap.size + 1) rs (.slice Bn ln cn) (.slice Bd ld cd)) w6.heap.size (.slice Bd ld cd) rn := Lim.wroteQ hvd hP6.qr rs _ _
    have g4 := wroteQ_below hP6.bl (show w.heap.size ≤ w.heap.size + 1 by omega) rs (.slice Bn ln cn) (.slice Bd ld cd)
    have g5 : w6.heap.size ≤ (wroteQ w6 (w.heap.size + 1) rs (.slice Bn ln cn) (.slice Bd ld cd)).heap.size := by simp [wroteQ, World.setCell]
    generalize wroteQ w6 (w.heap.size + 1) rs (.slice Bn ln cn) (.slice Bd ld cd) = W9 at g1 g2 g3 g4 g5 ⊢
    have z0 := g1.c0
    have z1 := g1.c1
    have z2 := g1.c2
    refine bodyPost_ret (v := .tuple #[.agg #[.bool rs, .slice Bn ln cn, .slice Bd ld cd], .int .i64 re]) ?_ rfl ⟨Bn, ln, cn, Bd, ld, cd, rfl, Lim.more g2 g5, Lim.more g3 g5, g4⟩
    simp [results, Try.results57, z0, z1, z2, go_sem]
  · by_cases hodd : k % 2 = 1
    · obtain rfl : sg = true := by rw [hsg, decide_eq_true hodd]; rfl
      have hp : (k : Int) % 2 = 1 := by omega
      clear hsg hodd
      go_enter Try.func57, Try.ntmps57
      go_wp2_with fail
      refine HEX.out.mono ?_
      rintro e w2 ⟨he, hP2⟩
      subst he
      have x0 := hP2.qa.c0
      have x1 := hP2.qa.c1
      have x2 := hP2.qa.c2
      go_wp2_with fail
      go_region_held3 (fun w' => w'.cell? ⟨w.heap.size, 1, none⟩ = some (.slice A1 l1 e1) ∧ w'.cell? ⟨w.heap.size, 2, none⟩ = some (.slice A2 l2 e2))
        (refine ⟨?_, ?_⟩ <;> first | with_reducible assumption | go_keep)
        (fail)
      have hP3 := hP2.drew
      clear hP2 x0 x1 x2
      generalize w2.drew = w3 at *
      go_wp2_with fail
      refine (HP1.out w3 hP3.bl).mono ?_
      rintro e w4 ⟨A3, n3, c3, he, hn4, hb4⟩
      subst he
      have hP4 := hP3.below hb4
      go_wp2_with fail
      refine (HP2.out w4 hP4.bl).mono ?_
      rintro e w5 ⟨A5, n5, c5, he, hn5, hb5⟩
      subst he
      have hP5 := hP4.below hb5
      have hn45 := hn4.up hb5
      have y0 := hP5.qa.c0
      have hcall := Lib.hid (HLO.out w5 _ _ hn45 hn5)
      have HP5 := Lib.hid hP5
      clear hP3 hP4 hP5 hn4 hn5 hn45 hb4 hb5
      go_wp2_with fail
      refine hcall.out.mono ?_
      rintro e w6 ⟨Bn, ln, cn, Bd, ld, cd, he, hvn, hvd, hb6⟩
      subst he
      have hP6 := HP5.out.below hb6
      have r0 := hP6.qr.c0
      have r1 := hP6.qr.c1
      have r2 := hP6.qr.c2
      have r3 := hP6.qr.fr 0
      have r4 := hP6.qr.fr 1
      have r5 := hP6.qr.fr 2
      go_wp2_with fail
      change bodyPost _ _ _ Exit.ret _ (wroteQ w6 (w.heap.size + 1) rs (.slice Bn ln cn) (.slice Bd ld cd))
      have g1 := hP6.qr.write rs (.slice Bn ln cn) (.slice Bd ld cd)
      have g2 : Num (wroteQ w6 (w.heap.size + 1) rs (.slice Bn ln cn) (.slice Bd ld cd)) w6.heap.size (.slice Bn ln cn) rm := Lim.wroteQ hvn hP6.qr rs _ _
      have g3 : Num (wroteQ w6 (w.heap.size + 1) rs (.slice Bn ln cn) (.slice Bd ld cd)) w6.heap.size (.slice Bd ld cd) rn := Lim.wroteQ hvd hP6.qr rs _ _
      have g4 := wroteQ_below hP6.bl (show w.heap.size ≤ w.heap.size + 1 by omega) rs (.slice Bn ln cn) (.slice Bd ld cd)
      have g5 : w6.heap.size ≤ (wroteQ w6 (w.heap.size + 1) rs (.slice Bn ln cn) (.slice Bd ld cd)).heap.size := by simp [wroteQ, World.setCell]
      generalize wroteQ w6 (w.heap.size + 1) rs (.slice Bn ln cn) (.slice Bd ld cd) = W9 at g1 g2 g3 g4 g5 ⊢
      have z0 := g1.c0
      have z1 := g1.c1
      have z2 := g1.c2
      refine bodyPost_ret (v := .tuple #[.agg #[.bool rs, .slice Bn ln cn, .slice Bd ld cd], .int .i64 re]) ?_ rfl ⟨Bn, ln, cn, Bd, ld, cd, rfl, Lim.more g2 g5, Lim.more g3 g5, g4⟩
      simp [results, Try.results57, z0, z1, z2, go_sem]
    · obtain rfl : sg = false := by rw [hsg, decide_eq_false hodd]; rfl
      have hp : (k : Int) % 2 = 0 := by omega
      clear hsg hodd
      go_enter Try.func57, Try.ntmps57
      go_wp2_with fail
      refine HEX.out.mono ?_
      rintro e w2 ⟨he, hP2⟩
      subst he
      have x0 := hP2.qa.c0
      have x1 := hP2.qa.c1
      have x2 := hP2.qa.c2
      go_wp2_with fail
      go_region_held3 (fun w' => w'.cell? ⟨w.heap.size, 1, none⟩ = some (.slice A1 l1 e1) ∧ w'.cell? ⟨w.heap.size, 2, none⟩ = some (.slice A2 l2 e2))
        (refine ⟨?_, ?_⟩ <;> first | with_reducible assumption | go_keep)
        (fail)
      have hP3 := hP2.drew
      clear hP2 x0 x1 x2
      generalize w2.drew = w3 at *
      go_wp2_with fail
      refine (HP1.out w3 hP3.bl).mono ?_
      rintro e w4 ⟨A3, n3, c3, he, hn4, hb4⟩
      subst he
      have hP4 := hP3.below hb4
      go_wp2_with fail
      refine (HP2.out w4 hP4.bl).mono ?_
      rintro e w5 ⟨A5, n5, c5, he, hn5, hb5⟩
      subst he
      have hP5 := hP4.below hb5
      have hn45 := hn4.up hb5
      have y0 := hP5.qa.c0
      have hcall := Lib.hid (HLO.out w5 _ _ hn45 hn5)
      have HP5 := Lib.hid hP5
      clear hP3 hP4 hP5 hn4 hn5 hn45 hb4 hb5
      go_wp2_with fail
      refine hcall.out.mono ?_
      rintro e w6 ⟨Bn, ln, cn, Bd, ld, cd, he, hvn, hvd, hb6⟩
      subst he
      have hP6 := HP5.out.below hb6
      have r0 := hP6.qr.c0
      have r1 := hP6.qr.c1
      have r2 := hP6.qr.c2
      have r3 := hP6.qr.fr 0
      have r4 := hP6.qr.fr 1
      have r5 := hP6.qr.fr 2
      go_wp2_with fail
      change bodyPost _ _ _ Exit.ret _ (wroteQ w6 (w.heap.size + 1) rs (.slice Bn ln cn) (.slice Bd ld cd))
      have g1 := hP6.qr.write rs (.slice Bn ln cn) (.slice Bd ld cd)
      have g2 : Num (wroteQ w6 (w.heap.size + 1) rs (.slice Bn ln cn) (.slice Bd ld cd)) w6.heap.size (.slice Bn ln cn) rm := Lim.wroteQ hvn hP6.qr rs _ _
      have g3 : Num (wroteQ w6 (w.heap.size + 1) rs (.slice Bn ln cn) (.slice Bd ld cd)) w6.heap.size (.slice Bd ld cd) rn := Lim.wroteQ hvd hP6.qr rs _ _
      have g4 := wroteQ_below hP6.bl (show w.heap.size ≤ w.heap.size + 1 by omega) rs (.slice Bn ln cn) (.slice Bd ld cd)
      have g5 : w6.heap.size ≤ (wroteQ w6 (w.heap.size + 1) rs (.slice Bn ln cn) (.slice Bd ld cd)).heap.size := by simp [wroteQ, World.setCell]
      generalize wroteQ w6 (w.heap.size + 1) rs (.slice Bn ln cn) (.slice Bd ld cd) = W9 at g1 g2 g3 g4 g5 ⊢
      have z0 := g1.c0
      have z1 := g1.c1
      have z2 := g1.c2
      refine bodyPost_ret (v := .tuple #[.agg #[.bool rs, .slice Bn ln cn, .slice Bd ld cd], .int .i64 re]) ?_ rfl ⟨Bn, ln, cn, Bd, ld, cd, rfl, Lim.more g2 g5, Lim.more g3 g5, g4⟩
      simp [results, Try.results57, z0, z1, z2, go_sem]
end Go.Proofs.Ytmmgbofhbnflkaa
