import Derived.Test.YtlababdfdjjjaaaGreatDoorX2
namespace Go.Proofs.YtlababdfdjjjaaaGreatDoor
open Go.RowKit

/-! The program's difference and comparison of fractions, and Ratio. -/
set_option maxRecDepth 100000 in
set_option maxHeartbeats 4000000 in
theorem QSub_any (f1 f2 : Fr) (n1 d1 n2 d2 : Value) (w : World) (h1 : FrV w f1 n1 d1) (h2 : FrV w f2 n2 d2) :
    Calls Tryz.prog 51 #[.agg #[.bool f1.neg, n1, d1], .agg #[.bool f2.neg, n2, d2]] w (ResW w (qsubW f1 f2)) := by
  have hF : FSum w f1.neg n1 d1 f2.neg n2 d2 (((w.alloc (.cells #[.bool f1.neg, n1, d1] 48)).alloc (.cells #[.bool f2.neg, n2, d2] 48)).alloc (.cells #[.bool false, .slice none 0 0, .slice none 0 0] 48)) := by
    have b1 : Below w.heap.size w (w.alloc (.cells #[.bool f1.neg, n1, d1] 48)) := (Below.refl _ w).alloc (Nat.le_refl _) _
    have q1 := QB.new w f1.neg n1 d1
    have q2 := QB.new (w.alloc (.cells #[.bool f1.neg, n1, d1] 48)) f2.neg n2 d2
    have q3 := QB.new ((w.alloc (.cells #[.bool f1.neg, n1, d1] 48)).alloc (.cells #[.bool f2.neg, n2, d2] 48)) false (.slice none 0 0) (.slice none 0 0)
    have bA := fun (W : World) (o : Obj) => (Below.refl W.heap.size W).alloc (Nat.le_refl _) o
    rw [World.size_alloc] at q2
    rw [World.size_alloc, World.size_alloc] at q3
    exact ⟨(q1.below (bA _ _) q1.lt).below (bA _ _) (q1.below (bA _ _) q1.lt).lt, q2.below (bA _ _) q2.lt, q3, ((b1.alloc (by simp) _).alloc (by simp; omega) _)⟩
  obtain ⟨W, hW⟩ : ∃ W, W = (((w.alloc (.cells #[.bool f1.neg, n1, d1] 48)).alloc (.cells #[.bool f2.neg, n2, d2] 48)).alloc (.cells #[.bool false, .slice none 0 0, .slice none 0 0] 48)) := ⟨_, rfl⟩
  rw [← hW] at hF
  have hsz : W.heap.size = w.heap.size + 1 + 1 + 1 := by rw [hW]; simp
  have hex := examQ2 f1 f2 n1 d1 n2 d2 W (h1.up hF.bl) (h2.up hF.bl)
  have hbA : Below W.heap.size W (W.alloc (.cells #[.bool f1.neg, n1, d1, .bool f2.neg, n2, d2] 48)) := (Below.refl _ _).alloc (Nat.le_refl _) _
  have hSA := hF.below hbA
  have hszA : (W.alloc (.cells #[.bool f1.neg, n1, d1, .bool f2.neg, n2, d2] 48)).heap.size = w.heap.size + 1 + 1 + 1 + 1 := by rw [World.size_alloc, hsz]
  rw [hsz] at hex
  replace hex := hex.mono (fun e w' (h : e = .returned (.int .i64 (examQW [f1, f2])) ∧ _) => (⟨h.1, hSA.below (by rw [hszA]; exact h.2)⟩ : e = .returned (.int .i64 (examQW [f1, f2])) ∧ FSum w f1.neg n1 d1 f2.neg n2 d2 w'))
  have hfs : examQW [f1, f2] = 0 → ∀ W', Below w.heap.size w W' → Calls Tryz.prog 106 #[.agg #[.bool f1.neg, n1, d1], .agg #[.bool (!f2.neg), n2, d2]] W' (ResF W' (fsumW f1.neg (val f1.num) (val f1.den) (!f2.neg) (val f2.num) (val f2.den))) := by
    intro h0 W' hW'
    have p1 := examQW_ok h0 f1 (by simp)
    have p2 := examQW_ok h0 f2 (by simp)
    obtain ⟨a1, a2, a3, a4, a5⟩ := (h1.up hW').ok p1
    obtain ⟨b1, b2, b3, b4, b5⟩ := (h2.up hW').ok p2
    exact (fractionSum_any f1.neg (!f2.neg) n1 d1 n2 d2 _ _ _ _ W' a1 a2 b1 b2 a3 b3 (by omega) (by omega) (by omega) (by omega)).mono (fun e w' h => h.forms)
  have c0 := hF.qa.c0
  have c1 := hF.qa.c1
  have c2 := hF.qa.c2
  have d0 := hF.qb.c0
  have d1' := hF.qb.c1
  have d2' := hF.qb.c2
  have fn1 := h1.1.1.form
  have fd1 := h1.2.1.form
  have fn2 := h2.1.1.form
  have fd2 := h2.2.1.form
  obtain ⟨A1, e1, rfl, -⟩ := fn1
  obtain ⟨A2, e2, rfl, -⟩ := fd1
  obtain ⟨A3, e3, rfl, -⟩ := fn2
  obtain ⟨A4, e4, rfl, -⟩ := fd2
  unfold qsubW
  generalize fsumW f1.neg (val f1.num) (val f1.den) (!f2.neg) (val f2.num) (val f2.den) = fr at *
  generalize examQW [f1, f2] = ec at *
  have HEX := Lib.hid hex
  have HFS := Lib.hid hfs
  clear hex hfs hSA hszA hsz hF hbA h1 h2
  generalize f1.neg = s1 at *
  generalize f2.neg = s2 at *
  generalize f1.num.length = l1 at *
  generalize f1.den.length = l2 at *
  generalize f2.num.length = l3 at *
  generalize f2.den.length = l4 at *
  by_cases h0 : ec = 0
  · subst h0
    rw [if_pos rfl]
    obtain ⟨rs, rm, rn, re⟩ := fr
    subst hW
    go_enter Tryz.func51, Tryz.ntmps51
    go_wp2_with fail
    refine HEX.out.mono ?_
    rintro e w2 ⟨he, hS2⟩
    subst he
    have x0 := hS2.qa.c0
    have x1 := hS2.qa.c1
    have x2 := hS2.qa.c2
    have y0 := hS2.qb.c0
    have y1 := hS2.qb.c1
    have y2 := hS2.qb.c2
    have r0 := hS2.qr.c0
    have r1 := hS2.qr.c1
    have r2 := hS2.qr.c2
    have r3 := hS2.qr.fr 0
    have r4 := hS2.qr.fr 1
    have r5 := hS2.qr.fr 2
    have hcall := HFS.out (by trivial) w2 hS2.bl
    have HCALL := Lib.hid hcall
    clear hcall
    go_wp2_with fail
    refine HCALL.out.mono ?_
    rintro e w6 ⟨Bn, ln, cn, Bd, ld, cd, he, hvn, hvd2, hbl⟩
    subst he
    have hS6 := hS2.below hbl
    have z0 := hS6.qr.c0
    have z1 := hS6.qr.c1
    have z2 := hS6.qr.c2
    have z3 := hS6.qr.fr 0
    have z4 := hS6.qr.fr 1
    have z5 := hS6.qr.fr 2
    go_wp2_with fail
    change bodyPost _ _ _ Exit.ret _ (wroteQ w6 (w.heap.size + 1 + 1) rs (.slice Bn ln cn) (.slice Bd ld cd))
    have g1 := hS6.qr.write rs (.slice Bn ln cn) (.slice Bd ld cd)
    have g2 : Num (wroteQ w6 (w.heap.size + 1 + 1) rs (.slice Bn ln cn) (.slice Bd ld cd)) w6.heap.size (.slice Bn ln cn) rm := Lim.wroteQ hvn hS6.qr rs _ _
    have g3 : Num (wroteQ w6 (w.heap.size + 1 + 1) rs (.slice Bn ln cn) (.slice Bd ld cd)) w6.heap.size (.slice Bd ld cd) rn := Lim.wroteQ hvd2 hS6.qr rs _ _
    have g4 := wroteQ_below hS6.bl (show w.heap.size ≤ w.heap.size + 1 + 1 by omega) rs (.slice Bn ln cn) (.slice Bd ld cd)
    have g5 : w6.heap.size ≤ (wroteQ w6 (w.heap.size + 1 + 1) rs (.slice Bn ln cn) (.slice Bd ld cd)).heap.size := by simp [wroteQ, World.setCell]
    generalize wroteQ w6 (w.heap.size + 1 + 1) rs (.slice Bn ln cn) (.slice Bd ld cd) = W9 at g1 g2 g3 g4 g5 ⊢
    have k0 := g1.c0
    have k1 := g1.c1
    have k2 := g1.c2
    refine bodyPost_ret (v := .tuple #[.agg #[.bool rs, .slice Bn ln cn, .slice Bd ld cd], .int .i64 re]) ?_ rfl ⟨_, _, rfl, Lim.more g2 g5, Lim.more g3 g5, g4⟩
    simp [results, Tryz.results51, k0, k1, k2, go_sem]
  · rw [if_neg h0]
    have q1 : (ec == 0) = false := by simp [h0]
    have q2 : (ec != 0) = true := by simp [h0]
    subst hW
    clear h0
    go_enter Tryz.func51, Tryz.ntmps51
    go_wp2_with fail
    refine HEX.out.mono ?_
    rintro e w2 ⟨he, hS2⟩
    subst he
    have x0 := hS2.qa.c0
    have x1 := hS2.qa.c1
    have x2 := hS2.qa.c2
    have y0 := hS2.qb.c0
    have y1 := hS2.qb.c1
    have y2 := hS2.qb.c2
    have r0 := hS2.qr.c0
    have r1 := hS2.qr.c1
    have r2 := hS2.qr.c2
    have r3 := hS2.qr.fr 0
    have r4 := hS2.qr.fr 1
    have r5 := hS2.qr.fr 2
    go_wp2_with fail
    change bodyPost _ _ _ Exit.ret _ (wroteQ w2 (w.heap.size + 1 + 1) false (.slice none 0 0) (.slice none 0 0))
    have g1 := hS2.qr.write false (.slice none 0 0) (.slice none 0 0)
    have g4 := wroteQ_below hS2.bl (show w.heap.size ≤ w.heap.size + 1 + 1 by omega) false (.slice none 0 0) (.slice none 0 0)
    generalize wroteQ w2 (w.heap.size + 1 + 1) false (.slice none 0 0) (.slice none 0 0) = W9 at g1 g4 ⊢
    have k0 := g1.c0
    have k1 := g1.c1
    have k2 := g1.c2
    refine bodyPost_ret (v := .tuple #[.agg #[.bool false, .slice none 0 0, .slice none 0 0], .int .i64 ec]) ?_ rfl ⟨_, _, rfl, Num.zero _ _, Num.zero _ _, g4⟩
    simp [results, Tryz.results51, k0, k1, k2, go_sem]
theorem examW2 (f1 f2 : Fr) (n1 d1 n2 d2 : Value) (w : World) (h1 : FrV w f1 n1 d1) (h2 : FrV w f2 n2 d2) :
    Calls Tryz.prog 105 #[.slice (some ⟨w.heap.size + 1 + 1, 0, none⟩) 2 2] ((W2 w f1.neg f2.neg n1 d1 n2 d2).alloc (.cells #[.bool f1.neg, n1, d1, .bool f2.neg, n2, d2] 48)) fun e w' => e = .returned (.int .i64 (examQW [f1, f2])) ∧ FS2 w f1.neg n1 d1 f2.neg n2 d2 w' := by
  have hF := fs2_start w f1.neg f2.neg n1 d1 n2 d2
  have hex := examQ2 f1 f2 n1 d1 n2 d2 (W2 w f1.neg f2.neg n1 d1 n2 d2) (h1.up hF.bl) (h2.up hF.bl)
  have hsz := W2_size w f1.neg f2.neg n1 d1 n2 d2
  generalize W2 w f1.neg f2.neg n1 d1 n2 d2 = W at *
  have hbA : Below W.heap.size W (W.alloc (.cells #[.bool f1.neg, n1, d1, .bool f2.neg, n2, d2] 48)) := (Below.refl _ _).alloc (Nat.le_refl _) _
  have hSA := hF.below hbA
  have hszA : (W.alloc (.cells #[.bool f1.neg, n1, d1, .bool f2.neg, n2, d2] 48)).heap.size = w.heap.size + 1 + 1 + 1 := by rw [World.size_alloc, hsz]
  rw [hsz] at hex
  exact hex.mono (fun e w' h => ⟨h.1, hSA.below (by rw [hszA]; exact h.2)⟩)

set_option maxRecDepth 100000 in
set_option maxHeartbeats 4000000 in
theorem QCmp_any (f1 f2 : Fr) (n1 d1 n2 d2 : Value) (w : World) (h1 : FrV w f1 n1 d1) (h2 : FrV w f2 n2 d2) :
    Calls Tryz.prog 58 #[.agg #[.bool f1.neg, n1, d1], .agg #[.bool f2.neg, n2, d2]] w fun e w' => e = .returned (.tuple #[.int .i64 (qcmpW f1 f2).1, .int .i64 (qcmpW f1 f2).2]) ∧ Below w.heap.size w w' := by
  have hF := fs2_start w f1.neg f2.neg n1 d1 n2 d2
  have hex := examW2 f1 f2 n1 d1 n2 d2 w h1 h2
  unfold W2 at hF hex
  have hok : examQW [f1, f2] = 0 → ∀ W', Below w.heap.size w W' → _ := fun h0 W' hW' => (⟨(h1.up hW').ok (examQW_ok h0 f1 (by simp)), (h2.up hW').ok (examQW_ok h0 f2 (by simp))⟩ : _ ∧ _)
  have ht1 : examQW [f1, f2] = 0 → ∀ W', Below w.heap.size w W' → Calls Tryz.prog 85 #[n1, d2] W' (RNum0 W' (val f1.num * val f2.den)) := by
    intro h0 W' hW'
    obtain ⟨⟨a1, a2, a3, a4, a5⟩, ⟨b1, b2, b3, b4, b5⟩⟩ := hok h0 W' hW'
    exact product_num a1 b2 (by omega) (by omega)
  have ht2 : examQW [f1, f2] = 0 → ∀ W', Below w.heap.size w W' → Calls Tryz.prog 85 #[n2, d1] W' (RNum0 W' (val f2.num * val f1.den)) := by
    intro h0 W' hW'
    obtain ⟨⟨a1, a2, a3, a4, a5⟩, ⟨b1, b2, b3, b4, b5⟩⟩ := hok h0 W' hW'
    exact product_num b1 a2 (by omega) (by omega)
  have hsz : examQW [f1, f2] = 0 → (dg (val f1.num * val f2.den)).length ≤ 10000 ∧ (dg (val f2.num * val f1.den)).length ≤ 10000 := by
    intro h0
    obtain ⟨⟨a1, a2, a3, a4, a5⟩, ⟨b1, b2, b3, b4, b5⟩⟩ := hok h0 w (Below.refl _ _)
    have m1 := len_mul (val f1.num) (val f2.den)
    have m2 := len_mul (val f2.num) (val f1.den)
    exact ⟨by omega, by omega⟩
  have c0 := hF.qa.c0
  have c1 := hF.qa.c1
  have c2 := hF.qa.c2
  have d0 := hF.qb.c0
  have d1' := hF.qb.c1
  have d2' := hF.qb.c2
  have fn1 := h1.1.1.form
  have fd1 := h1.2.1.form
  have fn2 := h2.1.1.form
  have fd2 := h2.2.1.form
  obtain ⟨A1, e1, rfl, -⟩ := fn1
  obtain ⟨A2, e2, rfl, -⟩ := fd1
  obtain ⟨A3, e3, rfl, -⟩ := fn2
  obtain ⟨A4, e4, rfl, -⟩ := fd2
  unfold qcmpW
  generalize val f1.num * val f2.den = x at *
  generalize val f2.num * val f1.den = y at *
  generalize examQW [f1, f2] = ec at *
  have HEX := Lib.hid hex
  have HT1 := Lib.hid ht1
  have HT2 := Lib.hid ht2
  have HSZ := Lib.hid hsz
  clear hex ht1 ht2 hsz hok hF h1 h2
  generalize f1.neg = s1 at *
  generalize f2.neg = s2 at *
  generalize f1.num.length = l1 at *
  generalize f1.den.length = l2 at *
  generalize f2.num.length = l3 at *
  generalize f2.den.length = l4 at *
  by_cases h0 : ec = 0
  · subst h0
    rw [if_pos rfl]
    have HU1 := Lib.hid (HT1.out rfl)
    have HU2 := Lib.hid (HT2.out rfl)
    obtain ⟨sx, sy⟩ := HSZ.out rfl
    have SX := Lib.hid sx
    have SY := Lib.hid sy
    have hcb := cmpI_bd x y
    obtain ⟨c, hc⟩ : ∃ c, c = cmpI x y := ⟨_, rfl⟩
    rw [← hc] at hcb ⊢
    obtain ⟨hc1, hc2⟩ := hcb
    have HC := Lib.hid hc
    clear HT1 HT2 HSZ sx sy hc
    by_cases hs : s1 = s2
    · subst hs
      have hbne : (s1 != s1) = false := by cases s1 <;> rfl
      go_enter Tryz.func58, Tryz.ntmps58
      go_wp2_with fail
      refine HEX.out.mono ?_
      rintro e w2 ⟨he, hS2⟩
      subst he
      have x0 := hS2.qa.c0
      have x1 := hS2.qa.c1
      have x2 := hS2.qa.c2
      have y0 := hS2.qb.c0
      have y1 := hS2.qb.c1
      have y2 := hS2.qb.c2
      go_wp2_with fail
      go_region_held3 (fun w' => w'.cell? ⟨w.heap.size, 0, none⟩ = some (.bool s1) ∧ w'.cell? ⟨w.heap.size, 1, none⟩ = some (.slice A1 l1 e1) ∧ w'.cell? ⟨w.heap.size, 2, none⟩ = some (.slice A2 l2 e2) ∧ w'.cell? ⟨w.heap.size + 1, 0, none⟩ = some (.bool s1) ∧ w'.cell? ⟨w.heap.size + 1, 1, none⟩ = some (.slice A3 l3 e3) ∧ w'.cell? ⟨w.heap.size + 1, 2, none⟩ = some (.slice A4 l4 e4))
        (((try dsimp only); refine ⟨?_, ?_, ?_, ?_, ?_, ?_⟩ <;> first | with_reducible assumption | with_reducible exact kpx0 _ _ _ | with_reducible exact kpx1 _ _ _ | with_reducible exact kpx2 _ _ _ | with_reducible exact kpy0 _ _ _ | with_reducible exact kpy1 _ _ _ | with_reducible exact kpy2 _ _ _ | go_keep))
        (first
          | (go_at_call 85; refine Calls.mono (HU1.out _ (FS2.bl hS2.drew)) ?_; rintro e w3 ⟨vx, he, hvx, hba⟩; subst he; have hSa := FS2.below hS2.drew hba; have x0a := hSa.qa.c0; have x1a := hSa.qa.c1; have x2a := hSa.qa.c2; have y0a := hSa.qb.c0; have y1a := hSa.qb.c1; have y2a := hSa.qb.c2; clear HU1)
          | (go_at_call 85; refine Calls.mono (HU2.out _ (FS2.bl hSa)) ?_; rintro e w4 ⟨vy, he, hvy, hbb⟩; subst he; have hSb := FS2.below hSa hbb; have x0b := hSb.qa.c0; have x1b := hSb.qa.c1; have x2b := hSb.qa.c2; have y0b := hSb.qb.c0; have y1b := hSb.qb.c1; have y2b := hSb.qb.c2; clear HU2; have hvx4 := Lim.up hvx hbb; have HOR := Lib.hid (order_num hvx4 hvy (by have := SX.out; omega)))
          | (go_at_call 88; refine Calls.mono (HOR.out) ?_; rw [← HC.out]; rintro e w5 ⟨he, hdr⟩; subst he; have hSe := FS2.below hSb hdr.below; have x0e := hSe.qa.c0; have x1e := hSe.qa.c1; have x2e := hSe.qa.c2; have y0e := hSe.qb.c0; have y1e := hSe.qb.c1; have y2e := hSe.qb.c2; clear HOR))
      have HFIN := Lib.hid hSe.bl
      clear hvx hvx4 hvy hba hbb hdr
      cases s1
      all_goals
        go_wp2_with fail
        go_ret2
        exact ⟨rfl, HFIN.out⟩
    · have hbne : (s1 != s2) = true := by cases s1 <;> cases s2 <;> simp_all
      clear HU1 HU2
      go_enter Tryz.func58, Tryz.ntmps58
      go_wp2_with fail
      refine HEX.out.mono ?_
      rintro e w2 ⟨he, hS2⟩
      subst he
      have x0 := hS2.qa.c0
      have x1 := hS2.qa.c1
      have x2 := hS2.qa.c2
      have y0 := hS2.qb.c0
      have y1 := hS2.qb.c1
      have y2 := hS2.qb.c2
      cases s1
      · cases s2
        · exact absurd rfl hs
        · go_wp2_with fail
          refine (sign_false w2).mono ?_
          rintro e w3 ⟨he, rfl⟩
          subst he
          go_wp2_with fail
          go_ret2
          exact ⟨rfl, hS2.bl⟩
      · cases s2
        · go_wp2_with fail
          refine (sign_true w2).mono ?_
          rintro e w3 ⟨he, rfl⟩
          subst he
          go_wp2_with fail
          go_ret2
          exact ⟨rfl, hS2.bl⟩
        · exact absurd rfl hs
  · rw [if_neg h0]
    have q1 : (ec == 0) = false := by simp [h0]
    have q2 : (ec != 0) = true := by simp [h0]
    clear h0 HT1 HT2 HSZ
    go_enter Tryz.func58, Tryz.ntmps58
    go_wp2_with fail
    refine HEX.out.mono ?_
    rintro e w2 ⟨he, hS2⟩
    subst he
    have x0 := hS2.qa.c0
    have x1 := hS2.qa.c1
    have x2 := hS2.qa.c2
    have y0 := hS2.qb.c0
    have y1 := hS2.qb.c1
    have y2 := hS2.qb.c2
    go_wp2_with fail
    go_ret2
    exact ⟨rfl, hS2.bl⟩

def ratioW (neg : Bool) (la lb : List Nat) : Bool × Nat × Nat × Int := if examW [la, lb] = 0 then (if val lb = 0 then (false, 0, 0, 4) else lowW neg (val la) (val lb)) else (false, 0, 0, examW [la, lb])
structure QR (w : World) (W : World) : Prop where
  qr : QB W w.heap.size false (.slice none 0 0) (.slice none 0 0)
  bl : Below w.heap.size w W
theorem QR.below {w W W' : World} (h : QR w W) (hb : Below W.heap.size W W') : QR w W' := ⟨h.qr.below hb h.qr.lt, h.bl.trans (hb.mono h.bl.size)⟩
theorem qr_start (w : World) : QR w (w.alloc (.cells #[.bool false, .slice none 0 0, .slice none 0 0] 48)) := ⟨QB.new w _ _ _, (Below.refl _ w).alloc (Nat.le_refl _) _⟩

set_option maxRecDepth 100000 in
set_option maxHeartbeats 4000000 in
theorem Ratio_any (neg : Bool) (va vb : Value) (la lb : List Nat) (w : World) (ha : Arg w va la) (hb : Arg w vb lb) :
    Calls Tryz.prog 64 #[.bool neg, va, vb] w (ResW w (ratioW neg la lb)) := by
  have hF := qr_start w
  obtain ⟨W, hW⟩ : ∃ W, W = w.alloc (.cells #[.bool false, .slice none 0 0, .slice none 0 0] 48) := ⟨_, rfl⟩
  rw [← hW] at hF
  have hsz : W.heap.size = w.heap.size + 1 := by rw [hW]; simp
  have hex := exam2 va vb la lb W (ha.up hF.bl) (hb.up hF.bl)
  have hbA : Below W.heap.size W (W.alloc (.cells #[va, vb] 24)) := (Below.refl _ _).alloc (Nat.le_refl _) _
  replace hex := hex.mono (fun e w' (h : e = .returned (.int .i64 (examW [la, lb])) ∧ _ = w') => (⟨h.1, h.2 ▸ hF.below hbA⟩ : e = .returned (.int .i64 (examW [la, lb])) ∧ QR w w'))
  rw [hsz] at hex
  have hnum : examW [la, lb] = 0 → ∀ W, Below w.heap.size w W → (Num W W.heap.size va (val la) ∧ (dg (val la)).length ≤ 512) ∧ (Num W W.heap.size vb (val lb) ∧ (dg (val lb)).length ≤ 512) := fun h W hW => ⟨⟨(ha.num h (by simp)).1.up hW, (ha.num h (by simp)).2.1⟩, ⟨(hb.num h (by simp)).1.up hW, (hb.num h (by simp)).2.1⟩⟩
  have hiz : examW [la, lb] = 0 → ∀ W', Below w.heap.size w W' → Calls Tryz.prog 77 #[vb] W' (fun e w' => e = .returned (.bool (decide (val lb = 0))) ∧ W' = w') := fun h0 W' hW' => isZero_any _ _ _ _ (hnum h0 W' hW').2.1
  have hlo : examW [la, lb] = 0 → val lb ≠ 0 → ∀ W', Below w.heap.size w W' → Calls Tryz.prog 110 #[.bool neg, va, vb] W' (ResF W' (lowW neg (val la) (val lb))) := by
    intro h0 hz W' hW'
    obtain ⟨⟨a1, a2⟩, ⟨b1, b2⟩⟩ := hnum h0 W' hW'
    exact low_num neg a1 b1 hz (by omega) (by omega)
  obtain ⟨A, capa, rfl, -⟩ := ha.1.form
  obtain ⟨B, capb, rfl, -⟩ := hb.1.form
  unfold ratioW
  generalize lowW neg (val la) (val lb) = fr at *
  generalize examW [la, lb] = ec at *
  have HEX := Lib.hid hex
  have HLO := Lib.hid hlo
  have HIZ := Lib.hid hiz
  clear hiz
  clear hex hlo hnum hF hsz ha hb
  generalize val lb = vn at *
  generalize la.length = l1 at *
  generalize lb.length = l2 at *
  by_cases h0 : ec = 0
  · subst h0
    rw [if_pos rfl]
    by_cases hz : vn = 0
    · rw [if_pos hz]
      have HZ := Lib.hid (HIZ.out rfl)
      rw [decide_eq_true hz] at HZ
      clear HIZ
      clear hz HLO
      subst hW
      go_enter Tryz.func64, Tryz.ntmps64
      go_wp2_with fail
      refine HEX.out.mono ?_
      rintro e w2 ⟨he, hS2⟩
      subst he
      have r0 := hS2.qr.c0
      have r1 := hS2.qr.c1
      have r2 := hS2.qr.c2
      have r3 := hS2.qr.fr 0
      have r4 := hS2.qr.fr 1
      have r5 := hS2.qr.fr 2
      go_wp2_with fail
      refine (HZ.out w2 hS2.bl).mono ?_
      rintro e w2' ⟨he, rfl⟩
      subst he
      go_wp2_with fail
      change bodyPost _ _ _ Exit.ret _ (wroteQ w2 w.heap.size false (.slice none 0 0) (.slice none 0 0))
      have g1 := hS2.qr.write false (.slice none 0 0) (.slice none 0 0)
      have g4 := wroteQ_below hS2.bl (Nat.le_refl _) false (.slice none 0 0) (.slice none 0 0)
      generalize wroteQ w2 w.heap.size false (.slice none 0 0) (.slice none 0 0) = W9 at g1 g4 ⊢
      have k0 := g1.c0
      have k1 := g1.c1
      have k2 := g1.c2
      refine bodyPost_ret (v := .tuple #[.agg #[.bool false, .slice none 0 0, .slice none 0 0], .int .i64 4]) ?_ rfl ⟨_, _, rfl, Num.zero _ _, Num.zero _ _, g4⟩
      simp [results, Tryz.results64, k0, k1, k2, go_sem]
    · rw [if_neg hz]
      have HZ := Lib.hid (HIZ.out rfl)
      rw [decide_eq_false hz] at HZ
      clear HIZ
      have HUL := Lib.hid (HLO.out rfl hz)
      clear hz HLO
      obtain ⟨rs, rm, rn, re⟩ := fr
      subst hW
      go_enter Tryz.func64, Tryz.ntmps64
      go_wp2_with fail
      refine HEX.out.mono ?_
      rintro e w2 ⟨he, hS2⟩
      subst he
      have r0 := hS2.qr.c0
      have r1 := hS2.qr.c1
      have r2 := hS2.qr.c2
      have r3 := hS2.qr.fr 0
      have r4 := hS2.qr.fr 1
      have r5 := hS2.qr.fr 2
      go_wp2_with fail
      refine (HZ.out w2 hS2.bl).mono ?_
      rintro e w2' ⟨he, rfl⟩
      subst he
      go_wp2_with fail
      refine (HUL.out w2 hS2.bl).mono ?_
      rintro e w5 ⟨Bn, ln, cn, Bd, ld, cd, he, hvn, hvd, hbc⟩
      subst he
      have hSc := hS2.below hbc
      have s0 := hSc.qr.c0
      have s1 := hSc.qr.c1
      have s2 := hSc.qr.c2
      have s3 := hSc.qr.fr 0
      have s4 := hSc.qr.fr 1
      have s5 := hSc.qr.fr 2
      go_wp2_with fail
      change bodyPost _ _ _ Exit.ret _ (wroteQ w5 w.heap.size rs (.slice Bn ln cn) (.slice Bd ld cd))
      have g1 := hSc.qr.write rs (.slice Bn ln cn) (.slice Bd ld cd)
      have g2 : Num (wroteQ w5 w.heap.size rs (.slice Bn ln cn) (.slice Bd ld cd)) w5.heap.size (.slice Bn ln cn) rm := Lim.wroteQ hvn hSc.qr rs _ _
      have g3 : Num (wroteQ w5 w.heap.size rs (.slice Bn ln cn) (.slice Bd ld cd)) w5.heap.size (.slice Bd ld cd) rn := Lim.wroteQ hvd hSc.qr rs _ _
      have g4 := wroteQ_below hSc.bl (Nat.le_refl _) rs (.slice Bn ln cn) (.slice Bd ld cd)
      have g5 : w5.heap.size ≤ (wroteQ w5 w.heap.size rs (.slice Bn ln cn) (.slice Bd ld cd)).heap.size := by simp [wroteQ, World.setCell]
      generalize wroteQ w5 w.heap.size rs (.slice Bn ln cn) (.slice Bd ld cd) = W9 at g1 g2 g3 g4 g5 ⊢
      have k0 := g1.c0
      have k1 := g1.c1
      have k2 := g1.c2
      refine bodyPost_ret (v := .tuple #[.agg #[.bool rs, .slice Bn ln cn, .slice Bd ld cd], .int .i64 re]) ?_ rfl ⟨_, _, rfl, Lim.more g2 g5, Lim.more g3 g5, g4⟩
      simp [results, Tryz.results64, k0, k1, k2, go_sem]
  · rw [if_neg h0]
    have q1 : (ec == 0) = false := by simp [h0]
    have q2 : (ec != 0) = true := by simp [h0]
    clear h0 HLO HIZ
    subst hW
    go_enter Tryz.func64, Tryz.ntmps64
    go_wp2_with fail
    refine HEX.out.mono ?_
    rintro e w2 ⟨he, hS2⟩
    subst he
    have r0 := hS2.qr.c0
    have r1 := hS2.qr.c1
    have r2 := hS2.qr.c2
    have r3 := hS2.qr.fr 0
    have r4 := hS2.qr.fr 1
    have r5 := hS2.qr.fr 2
    go_wp2_with fail
    change bodyPost _ _ _ Exit.ret _ (wroteQ w2 w.heap.size false (.slice none 0 0) (.slice none 0 0))
    have g1 := hS2.qr.write false (.slice none 0 0) (.slice none 0 0)
    have g4 := wroteQ_below hS2.bl (Nat.le_refl _) false (.slice none 0 0) (.slice none 0 0)
    generalize wroteQ w2 w.heap.size false (.slice none 0 0) (.slice none 0 0) = W9 at g1 g4 ⊢
    have k0 := g1.c0
    have k1 := g1.c1
    have k2 := g1.c2
    refine bodyPost_ret (v := .tuple #[.agg #[.bool false, .slice none 0 0, .slice none 0 0], .int .i64 ec]) ?_ rfl ⟨_, _, rfl, Num.zero _ _, Num.zero _ _, g4⟩
    simp [results, Tryz.results64, k0, k1, k2, go_sem]
end Go.Proofs.YtlababdfdjjjaaaGreatDoor
