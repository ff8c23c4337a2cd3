import Derived.Test.YtlababdfdjjjaaaGreatDoorNK
namespace Go.Proofs.YtlababdfdjjjaaaGreatDoor
open Go.RowKit

def powPart (neg : Bool) (m n j : Nat) : Bool × Nat × Nat × Int :=
  if n = 0 then (false, 0, 0, 4) else if 512 < (dg (m ^ j)).length ∨ 512 < (dg (n ^ j)).length then (false, 0, 0, 3) else (neg && decide (j % 2 = 1), m ^ j, n ^ j, 0)
def qpowW (f : Fr) (k : Int) : Bool × Nat × Nat × Int :=
  if examQW [f] = 0 then (if k < -2000 ∨ 2000 < k then (false, 0, 0, 2) else if k < 0 then powPart f.neg (val f.den) (val f.num) (-k).toNat else powPart f.neg (val f.num) (val f.den) k.toNat) else (false, 0, 0, examQW [f])
structure PQ (w : World) (neg : Bool) (vn vd : Value) (W : World) : Prop where
  qa : QB W w.heap.size neg vn vd
  qr : QB W (w.heap.size + 1) false (.slice none 0 0) (.slice none 0 0)
  bl : Below w.heap.size w W
theorem PQ.below {w W W' : World} {neg : Bool} {vn vd : Value} (h : PQ w neg vn vd W) (hb : Below W.heap.size W W') : PQ w neg vn vd W' := ⟨h.qa.below hb h.qa.lt, h.qr.below hb h.qr.lt, h.bl.trans (hb.mono h.bl.size)⟩
theorem PQ.drewN {w W : World} {neg : Bool} {vn vd : Value} (h : PQ w neg vn vd W) (n : Nat) : PQ w neg vn vd (W.drewN n) := h.below (below_drewN W n)
/-- powerWithin, its answer in parts. -/
theorem pw_forms (va : Value) (a k : Nat) (w : World) (ha : Num w w.heap.size va a) (hla : (dg a).length ≤ 512) (hk : k ≤ 20000) (ec : Int) (rn : Nat) (h1 : ec = if 512 < (dg (a ^ k)).length then 3 else 0) (h2 : rn = if 512 < (dg (a ^ k)).length then 0 else a ^ k) :
    Calls Tryz.prog 102 #[va, .int .i64 (k : Int)] w fun e w' => ∃ A l c, e = .returned (.tuple #[.slice A l c, .int .i64 ec]) ∧ Num w' w'.heap.size (.slice A l c) rn ∧ Below w.heap.size w w' := by
  refine (powerWithin_any va a k w ha hla hk).mono ?_
  unfold resV
  rw [← h1, ← h2]
  rintro e w' ⟨v, he, hn, hb⟩
  have f := hn.form
  obtain ⟨A, c, rfl, -⟩ := f
  exact ⟨A, _, c, he, hn, hb⟩

set_option maxRecDepth 100000 in
set_option maxHeartbeats 8000000 in
theorem QPow_any (f : Fr) (vn vd : Value) (k : Int) (w : World) (h1 : FrV w f vn vd) :
    Calls Tryz.prog 66 #[.agg #[.bool f.neg, vn, vd], .int .i64 k] w (ResW w (qpowW f k)) := by
  have hP : PQ w f.neg vn vd ((w.alloc (.cells #[.bool f.neg, vn, vd] 48)).alloc (.cells #[.bool false, .slice none 0 0, .slice none 0 0] 48)) := by
    have q1 := QB.new w f.neg vn vd
    have q3 := QB.new (w.alloc (.cells #[.bool f.neg, vn, vd] 48)) false (.slice none 0 0) (.slice none 0 0)
    have bA := fun (W : World) (o : Obj) => (Below.refl W.heap.size W).alloc (Nat.le_refl _) o
    rw [World.size_alloc] at q3
    exact ⟨q1.below (bA _ _) q1.lt, q3, (bA w _).alloc (by simp) _⟩
  obtain ⟨W, hW⟩ : ∃ W, W = ((w.alloc (.cells #[.bool f.neg, vn, vd] 48)).alloc (.cells #[.bool false, .slice none 0 0, .slice none 0 0] 48)) := ⟨_, rfl⟩
  rw [← hW] at hP
  have hsz : W.heap.size = w.heap.size + 1 + 1 := by rw [hW]; simp
  have hex := examQ1 f vn vd W (h1.up hP.bl)
  have hbA : Below W.heap.size W (W.alloc (.cells #[.bool f.neg, vn, vd] 48)) := (Below.refl _ _).alloc (Nat.le_refl _) _
  replace hex := hex.mono (fun e w' (h : e = .returned (.int .i64 (examQW [f])) ∧ _) => (⟨h.1, hP.below (hbA.trans (h.2.mono (Nat.le_succ _)))⟩ : e = .returned (.int .i64 (examQW [f])) ∧ PQ w f.neg vn vd w'))
  rw [hsz] at hex
  have hok : examQW [f] = 0 → ∀ W', Below w.heap.size w W' → Num W' W'.heap.size vn (val f.num) ∧ Num W' W'.heap.size vd (val f.den) ∧ val f.den ≠ 0 ∧ (dg (val f.num)).length ≤ 512 ∧ (dg (val f.den)).length ≤ 512 := fun h0 W' hW' => (h1.up hW').ok (examQW_ok h0 f (by simp))
  have c0 := hP.qa.c0
  have c1 := hP.qa.c1
  have c2 := hP.qa.c2
  have fn1 := h1.1.1.form
  have fd1 := h1.2.1.form
  obtain ⟨A1, e1, rfl, -⟩ := fn1
  obtain ⟨A2, e2, rfl, -⟩ := fd1
  unfold qpowW
  generalize hM : val f.num = M at *
  generalize hN : val f.den = N at *
  generalize examQW [f] = ec at *
  have HEX := Lib.hid hex
  have HOK := Lib.hid hok
  clear hex hok hP hbA h1 hM hN hsz
  generalize f.neg = s1 at *
  generalize f.num.length = l1 at *
  generalize f.den.length = l2 at *
  by_cases h0 : ec = 0
  · subst h0
    rw [if_pos rfl]
    subst hW
    by_cases hk : k < -2000 ∨ 2000 < k
    · rw [if_pos hk]
      have hkn : ¬ (-2000 ≤ k ∧ k ≤ 2000) := by omega
      rcases hk with hk | hk
      all_goals
        go_enter Tryz.func66, Tryz.ntmps66
        go_wp2_with fail
        refine HEX.out.mono ?_
        rintro e w2 ⟨he, hS2⟩
        subst he
        have x0 := hS2.qa.c0
        have x1 := hS2.qa.c1
        have x2 := hS2.qa.c2
        have r0 := hS2.qr.c0
        have r1 := hS2.qr.c1
        have r2 := hS2.qr.c2
        have r3 := hS2.qr.fr 0
        have r4 := hS2.qr.fr 1
        have r5 := hS2.qr.fr 2
        go_wp2_with fail
        change bodyPost _ _ _ Exit.ret _ (wroteQ w2 (w.heap.size + 1) false (.slice none 0 0) (.slice none 0 0))
        have g1 := hS2.qr.write false (.slice none 0 0) (.slice none 0 0)
        have g4 := wroteQ_below hS2.bl (show w.heap.size ≤ w.heap.size + 1 by omega) false (.slice none 0 0) (.slice none 0 0)
        generalize wroteQ w2 (w.heap.size + 1) false (.slice none 0 0) (.slice none 0 0) = W9 at g1 g4 ⊢
        have k0 := g1.c0
        have k1 := g1.c1
        have k2 := g1.c2
        refine bodyPost_ret (v := .tuple #[.agg #[.bool false, .slice none 0 0, .slice none 0 0], .int .i64 2]) ?_ rfl ⟨_, _, rfl, Num.zero _ _, Num.zero _ _, g4⟩
        simp [results, Tryz.results66, k0, k1, k2, go_sem]
    · rw [if_neg hk]
      have hk1 : ¬ k < -2000 := by omega
      have hk2 : ¬ 2000 < k := by omega
      have hk3 : -2000 ≤ k := by omega
      have hk4 : k ≤ 2000 := by omega
      by_cases hneg : k < 0
      · rw [if_pos hneg]
        obtain ⟨j, hj, hjb⟩ : ∃ j : Nat, -k = (j : Int) ∧ j ≤ 2000 := ⟨(-k).toNat, by omega, by omega⟩
        rw [show (-k).toNat = j by omega]
        have hz : ∀ W', Below w.heap.size w W' → Calls Tryz.prog 77 #[.slice A1 l1 e1] W' fun e w' => e = .returned (.bool (decide (M = 0))) ∧ W' = w' := fun W' hW' => isZero_any _ _ _ _ (HOK.out rfl W' hW').1
        obtain ⟨ec1, he1⟩ : ∃ ec1 : Int, ec1 = if 512 < (dg (N ^ j)).length then 3 else 0 := ⟨_, rfl⟩
        obtain ⟨ec2, he2⟩ : ∃ ec2 : Int, ec2 = if 512 < (dg (M ^ j)).length then 3 else 0 := ⟨_, rfl⟩
        obtain ⟨rn1, hr1⟩ : ∃ rn1 : Nat, rn1 = if 512 < (dg (N ^ j)).length then 0 else N ^ j := ⟨_, rfl⟩
        obtain ⟨rn2, hr2⟩ : ∃ rn2 : Nat, rn2 = if 512 < (dg (M ^ j)).length then 0 else M ^ j := ⟨_, rfl⟩
        have hpm : ∀ W', Below w.heap.size w W' → Calls Tryz.prog 102 #[.slice A2 l2 e2, .int .i64 (-k)] W' fun e w' => ∃ A l c, e = .returned (.tuple #[.slice A l c, .int .i64 ec1]) ∧ Num w' w'.heap.size (.slice A l c) rn1 ∧ Below W'.heap.size W' w' := fun W' hW' => by
          rw [hj]; exact pw_forms _ _ j W' (HOK.out rfl W' hW').2.1 (HOK.out rfl W' hW').2.2.2.2 (by omega) ec1 rn1 he1 hr1
        have hpn : ∀ W', Below w.heap.size w W' → Calls Tryz.prog 102 #[.slice A1 l1 e1, .int .i64 (-k)] W' fun e w' => ∃ A l c, e = .returned (.tuple #[.slice A l c, .int .i64 ec2]) ∧ Num w' w'.heap.size (.slice A l c) rn2 ∧ Below W'.heap.size W' w' := fun W' hW' => by
          rw [hj]; exact pw_forms _ _ j W' (HOK.out rfl W' hW').1 (HOK.out rfl W' hW').2.2.2.1 (by omega) ec2 rn2 he2 hr2
        obtain ⟨od, hod⟩ : ∃ od : Bool, od = decide (j % 2 = 1) := ⟨_, rfl⟩
        have ho1 : ((-k) % 2 == 1) = od := by rw [hod, hj]; rcases (show j % 2 = 0 ∨ j % 2 = 1 by omega) with h | h <;> (rw [show ((j : Int) % 2) = ((j % 2 : Nat) : Int) by omega, h]; rfl)
        have ho2 : ((-k).tmod 2 == 1) = od := by rw [← ho1, Int.tmod_eq_emod_of_nonneg (by omega)]
        have ho3 : ((-(k.tmod 2)) == 1) = od := by rw [← Int.neg_tmod]; exact ho2
        have hres : powPart s1 N M j = if M = 0 then (false, 0, 0, 4) else if 512 < (dg (N ^ j)).length ∨ 512 < (dg (M ^ j)).length then (false, 0, 0, 3) else (s1 && od, rn1, rn2, 0) := by
          unfold powPart
          by_cases hx : 512 < (dg (N ^ j)).length ∨ 512 < (dg (M ^ j)).length
          · rw [if_pos hx, if_pos hx]
          · rw [if_neg hx, if_neg hx, hod, hr1, hr2, if_neg (fun h => hx (.inl h)), if_neg (fun h => hx (.inr h))]
        rw [hres]
        have HZ := Lib.hid hz
        have HPM := Lib.hid hpm
        have HPN := Lib.hid hpn
        clear hz hpm hpn hres hr1 hr2 hod hk
        by_cases hz0 : M = 0
        · rw [if_pos hz0]
          have hzz := HZ.out
          rw [decide_eq_true hz0] at hzz
          have HZZ := Lib.hid hzz
          clear hzz he1 he2 hj hz0
          go_enter Tryz.func66, Tryz.ntmps66
          go_wp2_with fail
          refine HEX.out.mono ?_
          rintro e w2 ⟨he, hS2⟩
          subst he
          have x0 := hS2.qa.c0
          have x1 := hS2.qa.c1
          have x2 := hS2.qa.c2
          have r0 := hS2.qr.c0
          have r1 := hS2.qr.c1
          have r2 := hS2.qr.c2
          have r3 := hS2.qr.fr 0
          have r4 := hS2.qr.fr 1
          have r5 := hS2.qr.fr 2
          go_wp2_with fail
          go_quiet (fail)
          have hS3 := hS2.drewN nq
          go_wp2_with fail
          refine (HZZ.out _ hS3.bl).mono ?_
          rintro e w3 ⟨he, rfl⟩
          subst he
          go_wp2_with fail
          change bodyPost _ _ _ Exit.ret _ (wroteQ (w2.drewN nq) (w.heap.size + 1) false (.slice none 0 0) (.slice none 0 0))
          have g1 := hS3.qr.write false (.slice none 0 0) (.slice none 0 0)
          have g4 := wroteQ_below hS3.bl (show w.heap.size ≤ w.heap.size + 1 by omega) false (.slice none 0 0) (.slice none 0 0)
          generalize wroteQ (w2.drewN nq) (w.heap.size + 1) false (.slice none 0 0) (.slice none 0 0) = W9 at g1 g4 ⊢
          have k0 := g1.c0
          have k1 := g1.c1
          have k2 := g1.c2
          refine bodyPost_ret (v := .tuple #[.agg #[.bool false, .slice none 0 0, .slice none 0 0], .int .i64 4]) ?_ rfl ⟨_, _, rfl, Num.zero _ _, Num.zero _ _, g4⟩
          simp [results, Tryz.results66, k0, k1, k2, go_sem]
        · rw [if_neg hz0]
          have hzz := HZ.out
          rw [decide_eq_false hz0] at hzz
          have HZZ := Lib.hid hzz
          clear hzz
          by_cases hl1 : 512 < (dg (N ^ j)).length
          · rw [if_pos (.inl hl1)]
            rw [if_pos hl1] at he1
            have qe1 : (ec1 != 0) = true := by rw [he1]; rfl
            have qe2 : (ec1 == 0) = false := by rw [he1]; rfl
            clear he1 he2 hj hl1 hz0
            go_enter Tryz.func66, Tryz.ntmps66
            go_wp2_with fail
            refine HEX.out.mono ?_
            rintro e w2 ⟨he, hS2⟩
            subst he
            have x0 := hS2.qa.c0
            have x1 := hS2.qa.c1
            have x2 := hS2.qa.c2
            have r0 := hS2.qr.c0
            have r1 := hS2.qr.c1
            have r2 := hS2.qr.c2
            have r3 := hS2.qr.fr 0
            have r4 := hS2.qr.fr 1
            have r5 := hS2.qr.fr 2
            go_wp2_with fail
            go_quiet (fail)
            have hS3 := hS2.drewN nq
            go_wp2_with fail
            refine (HZZ.out _ hS3.bl).mono ?_
            rintro e w3 ⟨he, rfl⟩
            subst he
            go_wp2_with fail
            refine (HPM.out _ hS3.bl).mono ?_
            rintro e w4 ⟨B1, m1, d1, he, hp1, hb4⟩
            subst he
            have hS4 := hS3.below hb4
            go_wp2_with fail
            refine (HPN.out _ hS4.bl).mono ?_
            rintro e w5 ⟨B2, m2, d2, he, hp2, hb5⟩
            subst he
            have hS5 := hS4.below hb5
            have hp1' := Lim.up hp1 hb5
            have z0 := hS5.qa.c0
            have y0 := hS5.qr.c0
            have y1 := hS5.qr.c1
            have y2 := hS5.qr.c2
            have y3 := hS5.qr.fr 0
            have y4 := hS5.qr.fr 1
            have y5 := hS5.qr.fr 2
            go_wp2_with fail
            change bodyPost _ _ _ Exit.ret _ (wroteQ w5 (w.heap.size + 1) false (.slice none 0 0) (.slice none 0 0))
            have g1 := hS5.qr.write false (.slice none 0 0) (.slice none 0 0)
            have g4 := wroteQ_below hS5.bl (show w.heap.size ≤ w.heap.size + 1 by omega) false (.slice none 0 0) (.slice none 0 0)
            generalize wroteQ w5 (w.heap.size + 1) false (.slice none 0 0) (.slice none 0 0) = W9 at g1 g4 ⊢
            have k0 := g1.c0
            have k1 := g1.c1
            have k2 := g1.c2
            refine bodyPost_ret (v := .tuple #[.agg #[.bool false, .slice none 0 0, .slice none 0 0], .int .i64 3]) ?_ rfl ⟨_, _, rfl, Num.zero _ _, Num.zero _ _, g4⟩
            simp [results, Tryz.results66, k0, k1, k2, go_sem]
          · rw [if_neg hl1] at he1
            have qe1 : (ec1 != 0) = false := by rw [he1]; rfl
            have qe2 : (ec1 == 0) = true := by rw [he1]; rfl
            by_cases hl2 : 512 < (dg (M ^ j)).length
            · rw [if_pos (.inr hl2)]
              rw [if_pos hl2] at he2
              have qf1 : (ec2 != 0) = true := by rw [he2]; rfl
              have qf2 : (ec2 == 0) = false := by rw [he2]; rfl
              clear he1 he2 hj hl1 hl2 hz0
              go_enter Tryz.func66, Tryz.ntmps66
              go_wp2_with fail
              refine HEX.out.mono ?_
              rintro e w2 ⟨he, hS2⟩
              subst he
              have x0 := hS2.qa.c0
              have x1 := hS2.qa.c1
              have x2 := hS2.qa.c2
              have r0 := hS2.qr.c0
              have r1 := hS2.qr.c1
              have r2 := hS2.qr.c2
              have r3 := hS2.qr.fr 0
              have r4 := hS2.qr.fr 1
              have r5 := hS2.qr.fr 2
              go_wp2_with fail
              go_quiet (fail)
              have hS3 := hS2.drewN nq
              go_wp2_with fail
              refine (HZZ.out _ hS3.bl).mono ?_
              rintro e w3 ⟨he, rfl⟩
              subst he
              go_wp2_with fail
              refine (HPM.out _ hS3.bl).mono ?_
              rintro e w4 ⟨B1, m1, d1, he, hp1, hb4⟩
              subst he
              have hS4 := hS3.below hb4
              go_wp2_with fail
              refine (HPN.out _ hS4.bl).mono ?_
              rintro e w5 ⟨B2, m2, d2, he, hp2, hb5⟩
              subst he
              have hS5 := hS4.below hb5
              have hp1' := Lim.up hp1 hb5
              have z0 := hS5.qa.c0
              have y0 := hS5.qr.c0
              have y1 := hS5.qr.c1
              have y2 := hS5.qr.c2
              have y3 := hS5.qr.fr 0
              have y4 := hS5.qr.fr 1
              have y5 := hS5.qr.fr 2
              go_wp2_with fail
              change bodyPost _ _ _ Exit.ret _ (wroteQ w5 (w.heap.size + 1) false (.slice none 0 0) (.slice none 0 0))
              have g1 := hS5.qr.write false (.slice none 0 0) (.slice none 0 0)
              have g4 := wroteQ_below hS5.bl (show w.heap.size ≤ w.heap.size + 1 by omega) false (.slice none 0 0) (.slice none 0 0)
              generalize wroteQ w5 (w.heap.size + 1) false (.slice none 0 0) (.slice none 0 0) = W9 at g1 g4 ⊢
              have k0 := g1.c0
              have k1 := g1.c1
              have k2 := g1.c2
              refine bodyPost_ret (v := .tuple #[.agg #[.bool false, .slice none 0 0, .slice none 0 0], .int .i64 3]) ?_ rfl ⟨_, _, rfl, Num.zero _ _, Num.zero _ _, g4⟩
              simp [results, Tryz.results66, k0, k1, k2, go_sem]
            · rw [if_neg (by rintro (h | h) <;> contradiction)]
              rw [if_neg hl2] at he2
              have qf1 : (ec2 != 0) = false := by rw [he2]; rfl
              have qf2 : (ec2 == 0) = true := by rw [he2]; rfl
              clear he1 he2 hj hl1 hl2 hz0
              cases s1
              · cases od
                all_goals
                  go_enter Tryz.func66, Tryz.ntmps66
                  go_wp2_with fail
                  refine HEX.out.mono ?_
                  rintro e w2 ⟨he, hS2⟩
                  subst he
                  have x0 := hS2.qa.c0
                  have x1 := hS2.qa.c1
                  have x2 := hS2.qa.c2
                  have r0 := hS2.qr.c0
                  have r1 := hS2.qr.c1
                  have r2 := hS2.qr.c2
                  have r3 := hS2.qr.fr 0
                  have r4 := hS2.qr.fr 1
                  have r5 := hS2.qr.fr 2
                  go_wp2_with fail
                  go_quiet (fail)
                  have hS3 := hS2.drewN nq
                  go_wp2_with fail
                  refine (HZZ.out _ hS3.bl).mono ?_
                  rintro e w3 ⟨he, rfl⟩
                  subst he
                  go_wp2_with fail
                  refine (HPM.out _ hS3.bl).mono ?_
                  rintro e w4 ⟨B1, m1, d1, he, hp1, hb4⟩
                  subst he
                  have hS4 := hS3.below hb4
                  go_wp2_with fail
                  refine (HPN.out _ hS4.bl).mono ?_
                  rintro e w5 ⟨B2, m2, d2, he, hp2, hb5⟩
                  subst he
                  have hS5 := hS4.below hb5
                  have hp1' := Lim.up hp1 hb5
                  have z0 := hS5.qa.c0
                  have y0 := hS5.qr.c0
                  have y1 := hS5.qr.c1
                  have y2 := hS5.qr.c2
                  have y3 := hS5.qr.fr 0
                  have y4 := hS5.qr.fr 1
                  have y5 := hS5.qr.fr 2
                  go_wp2_with fail
                  change bodyPost _ _ _ Exit.ret _ (wroteQ w5 (w.heap.size + 1) false (.slice B1 m1 d1) (.slice B2 m2 d2))
                  have g1 := hS5.qr.write false (.slice B1 m1 d1) (.slice B2 m2 d2)
                  have g2 : Num (wroteQ w5 (w.heap.size + 1) false (.slice B1 m1 d1) (.slice B2 m2 d2)) w5.heap.size (.slice B1 m1 d1) _ := Lim.wroteQ hp1' hS5.qr false _ _
                  have g3 : Num (wroteQ w5 (w.heap.size + 1) false (.slice B1 m1 d1) (.slice B2 m2 d2)) w5.heap.size (.slice B2 m2 d2) _ := Lim.wroteQ hp2 hS5.qr false _ _
                  have g4 := wroteQ_below hS5.bl (show w.heap.size ≤ w.heap.size + 1 by omega) false (.slice B1 m1 d1) (.slice B2 m2 d2)
                  have g5 : w5.heap.size ≤ (wroteQ w5 (w.heap.size + 1) false (.slice B1 m1 d1) (.slice B2 m2 d2)).heap.size := by simp [wroteQ, World.setCell]
                  generalize wroteQ w5 (w.heap.size + 1) false (.slice B1 m1 d1) (.slice B2 m2 d2) = W9 at g1 g2 g3 g4 g5 ⊢
                  have k0 := g1.c0
                  have k1 := g1.c1
                  have k2 := g1.c2
                  refine bodyPost_ret (v := .tuple #[.agg #[.bool false, .slice B1 m1 d1, .slice B2 m2 d2], .int .i64 0]) ?_ rfl ⟨_, _, by first | rfl | simp, Lim.more g2 g5, Lim.more g3 g5, g4⟩
                  simp [results, Tryz.results66, k0, k1, k2, go_sem]
              · cases od
                · go_enter Tryz.func66, Tryz.ntmps66
                  go_wp2_with fail
                  refine HEX.out.mono ?_
                  rintro e w2 ⟨he, hS2⟩
                  subst he
                  have x0 := hS2.qa.c0
                  have x1 := hS2.qa.c1
                  have x2 := hS2.qa.c2
                  have r0 := hS2.qr.c0
                  have r1 := hS2.qr.c1
                  have r2 := hS2.qr.c2
                  have r3 := hS2.qr.fr 0
                  have r4 := hS2.qr.fr 1
                  have r5 := hS2.qr.fr 2
                  go_wp2_with fail
                  go_quiet (fail)
                  have hS3 := hS2.drewN nq
                  go_wp2_with fail
                  refine (HZZ.out _ hS3.bl).mono ?_
                  rintro e w3 ⟨he, rfl⟩
                  subst he
                  go_wp2_with fail
                  refine (HPM.out _ hS3.bl).mono ?_
                  rintro e w4 ⟨B1, m1, d1, he, hp1, hb4⟩
                  subst he
                  have hS4 := hS3.below hb4
                  go_wp2_with fail
                  refine (HPN.out _ hS4.bl).mono ?_
                  rintro e w5 ⟨B2, m2, d2, he, hp2, hb5⟩
                  subst he
                  have hS5 := hS4.below hb5
                  have hp1' := Lim.up hp1 hb5
                  have z0 := hS5.qa.c0
                  have y0 := hS5.qr.c0
                  have y1 := hS5.qr.c1
                  have y2 := hS5.qr.c2
                  have y3 := hS5.qr.fr 0
                  have y4 := hS5.qr.fr 1
                  have y5 := hS5.qr.fr 2
                  go_wp2_with fail
                  change bodyPost _ _ _ Exit.ret _ (wroteQ w5 (w.heap.size + 1) false (.slice B1 m1 d1) (.slice B2 m2 d2))
                  have g1 := hS5.qr.write false (.slice B1 m1 d1) (.slice B2 m2 d2)
                  have g2 : Num (wroteQ w5 (w.heap.size + 1) false (.slice B1 m1 d1) (.slice B2 m2 d2)) w5.heap.size (.slice B1 m1 d1) _ := Lim.wroteQ hp1' hS5.qr false _ _
                  have g3 : Num (wroteQ w5 (w.heap.size + 1) false (.slice B1 m1 d1) (.slice B2 m2 d2)) w5.heap.size (.slice B2 m2 d2) _ := Lim.wroteQ hp2 hS5.qr false _ _
                  have g4 := wroteQ_below hS5.bl (show w.heap.size ≤ w.heap.size + 1 by omega) false (.slice B1 m1 d1) (.slice B2 m2 d2)
                  have g5 : w5.heap.size ≤ (wroteQ w5 (w.heap.size + 1) false (.slice B1 m1 d1) (.slice B2 m2 d2)).heap.size := by simp [wroteQ, World.setCell]
                  generalize wroteQ w5 (w.heap.size + 1) false (.slice B1 m1 d1) (.slice B2 m2 d2) = W9 at g1 g2 g3 g4 g5 ⊢
                  have k0 := g1.c0
                  have k1 := g1.c1
                  have k2 := g1.c2
                  refine bodyPost_ret (v := .tuple #[.agg #[.bool false, .slice B1 m1 d1, .slice B2 m2 d2], .int .i64 0]) ?_ rfl ⟨_, _, by first | rfl | simp, Lim.more g2 g5, Lim.more g3 g5, g4⟩
                  simp [results, Tryz.results66, k0, k1, k2, go_sem]
                · go_enter Tryz.func66, Tryz.ntmps66
                  go_wp2_with fail
                  refine HEX.out.mono ?_
                  rintro e w2 ⟨he, hS2⟩
                  subst he
                  have x0 := hS2.qa.c0
                  have x1 := hS2.qa.c1
                  have x2 := hS2.qa.c2
                  have r0 := hS2.qr.c0
                  have r1 := hS2.qr.c1
                  have r2 := hS2.qr.c2
                  have r3 := hS2.qr.fr 0
                  have r4 := hS2.qr.fr 1
                  have r5 := hS2.qr.fr 2
                  go_wp2_with fail
                  go_quiet (fail)
                  have hS3 := hS2.drewN nq
                  go_wp2_with fail
                  refine (HZZ.out _ hS3.bl).mono ?_
                  rintro e w3 ⟨he, rfl⟩
                  subst he
                  go_wp2_with fail
                  refine (HPM.out _ hS3.bl).mono ?_
                  rintro e w4 ⟨B1, m1, d1, he, hp1, hb4⟩
                  subst he
                  have hS4 := hS3.below hb4
                  go_wp2_with fail
                  refine (HPN.out _ hS4.bl).mono ?_
                  rintro e w5 ⟨B2, m2, d2, he, hp2, hb5⟩
                  subst he
                  have hS5 := hS4.below hb5
                  have hp1' := Lim.up hp1 hb5
                  have z0 := hS5.qa.c0
                  have y0 := hS5.qr.c0
                  have y1 := hS5.qr.c1
                  have y2 := hS5.qr.c2
                  have y3 := hS5.qr.fr 0
                  have y4 := hS5.qr.fr 1
                  have y5 := hS5.qr.fr 2
                  go_wp2_with fail
                  change bodyPost _ _ _ Exit.ret _ (wroteQ w5 (w.heap.size + 1) true (.slice B1 m1 d1) (.slice B2 m2 d2))
                  have g1 := hS5.qr.write true (.slice B1 m1 d1) (.slice B2 m2 d2)
                  have g2 : Num (wroteQ w5 (w.heap.size + 1) true (.slice B1 m1 d1) (.slice B2 m2 d2)) w5.heap.size (.slice B1 m1 d1) _ := Lim.wroteQ hp1' hS5.qr true _ _
                  have g3 : Num (wroteQ w5 (w.heap.size + 1) true (.slice B1 m1 d1) (.slice B2 m2 d2)) w5.heap.size (.slice B2 m2 d2) _ := Lim.wroteQ hp2 hS5.qr true _ _
                  have g4 := wroteQ_below hS5.bl (show w.heap.size ≤ w.heap.size + 1 by omega) true (.slice B1 m1 d1) (.slice B2 m2 d2)
                  have g5 : w5.heap.size ≤ (wroteQ w5 (w.heap.size + 1) true (.slice B1 m1 d1) (.slice B2 m2 d2)).heap.size := by simp [wroteQ, World.setCell]
                  generalize wroteQ w5 (w.heap.size + 1) true (.slice B1 m1 d1) (.slice B2 m2 d2) = W9 at g1 g2 g3 g4 g5 ⊢
                  have k0 := g1.c0
                  have k1 := g1.c1
                  have k2 := g1.c2
                  refine bodyPost_ret (v := .tuple #[.agg #[.bool true, .slice B1 m1 d1, .slice B2 m2 d2], .int .i64 0]) ?_ rfl ⟨_, _, by first | rfl | simp, Lim.more g2 g5, Lim.more g3 g5, g4⟩
                  simp [results, Tryz.results66, k0, k1, k2, go_sem]
      · rw [if_neg hneg]
        obtain ⟨j, hj, hjb⟩ : ∃ j : Nat, k = (j : Int) ∧ j ≤ 2000 := ⟨k.toNat, by omega, by omega⟩
        rw [show k.toNat = j by omega]
        have hz : ∀ W', Below w.heap.size w W' → Calls Tryz.prog 77 #[.slice A2 l2 e2] W' fun e w' => e = .returned (.bool (decide (N = 0))) ∧ W' = w' := fun W' hW' => isZero_any _ _ _ _ (HOK.out rfl W' hW').2.1
        obtain ⟨ec1, he1⟩ : ∃ ec1 : Int, ec1 = if 512 < (dg (M ^ j)).length then 3 else 0 := ⟨_, rfl⟩
        obtain ⟨ec2, he2⟩ : ∃ ec2 : Int, ec2 = if 512 < (dg (N ^ j)).length then 3 else 0 := ⟨_, rfl⟩
        obtain ⟨rn1, hr1⟩ : ∃ rn1 : Nat, rn1 = if 512 < (dg (M ^ j)).length then 0 else M ^ j := ⟨_, rfl⟩
        obtain ⟨rn2, hr2⟩ : ∃ rn2 : Nat, rn2 = if 512 < (dg (N ^ j)).length then 0 else N ^ j := ⟨_, rfl⟩
        have hpm : ∀ W', Below w.heap.size w W' → Calls Tryz.prog 102 #[.slice A1 l1 e1, .int .i64 (k)] W' fun e w' => ∃ A l c, e = .returned (.tuple #[.slice A l c, .int .i64 ec1]) ∧ Num w' w'.heap.size (.slice A l c) rn1 ∧ Below W'.heap.size W' w' := fun W' hW' => by
          rw [hj]; exact pw_forms _ _ j W' (HOK.out rfl W' hW').1 (HOK.out rfl W' hW').2.2.2.1 (by omega) ec1 rn1 he1 hr1
        have hpn : ∀ W', Below w.heap.size w W' → Calls Tryz.prog 102 #[.slice A2 l2 e2, .int .i64 (k)] W' fun e w' => ∃ A l c, e = .returned (.tuple #[.slice A l c, .int .i64 ec2]) ∧ Num w' w'.heap.size (.slice A l c) rn2 ∧ Below W'.heap.size W' w' := fun W' hW' => by
          rw [hj]; exact pw_forms _ _ j W' (HOK.out rfl W' hW').2.1 (HOK.out rfl W' hW').2.2.2.2 (by omega) ec2 rn2 he2 hr2
        obtain ⟨od, hod⟩ : ∃ od : Bool, od = decide (j % 2 = 1) := ⟨_, rfl⟩
        have ho1 : ((k) % 2 == 1) = od := by rw [hod, hj]; rcases (show j % 2 = 0 ∨ j % 2 = 1 by omega) with h | h <;> (rw [show ((j : Int) % 2) = ((j % 2 : Nat) : Int) by omega, h]; rfl)
        have ho2 : ((k).tmod 2 == 1) = od := by rw [← ho1, Int.tmod_eq_emod_of_nonneg (by omega)]
        have hres : powPart s1 M N j = if N = 0 then (false, 0, 0, 4) else if 512 < (dg (M ^ j)).length ∨ 512 < (dg (N ^ j)).length then (false, 0, 0, 3) else (s1 && od, rn1, rn2, 0) := by
          unfold powPart
          by_cases hx : 512 < (dg (M ^ j)).length ∨ 512 < (dg (N ^ j)).length
          · rw [if_pos hx, if_pos hx]
          · rw [if_neg hx, if_neg hx, hod, hr1, hr2, if_neg (fun h => hx (.inl h)), if_neg (fun h => hx (.inr h))]
        rw [hres]
        have HZ := Lib.hid hz
        have HPM := Lib.hid hpm
        have HPN := Lib.hid hpn
        clear hz hpm hpn hres hr1 hr2 hod hk
        by_cases hz0 : N = 0
        · rw [if_pos hz0]
          have hzz := HZ.out
          rw [decide_eq_true hz0] at hzz
          have HZZ := Lib.hid hzz
          clear hzz he1 he2 hj hz0
          go_enter Tryz.func66, Tryz.ntmps66
          go_wp2_with fail
          refine HEX.out.mono ?_
          rintro e w2 ⟨he, hS2⟩
          subst he
          have x0 := hS2.qa.c0
          have x1 := hS2.qa.c1
          have x2 := hS2.qa.c2
          have r0 := hS2.qr.c0
          have r1 := hS2.qr.c1
          have r2 := hS2.qr.c2
          have r3 := hS2.qr.fr 0
          have r4 := hS2.qr.fr 1
          have r5 := hS2.qr.fr 2
          go_wp2_with fail
          go_quiet (fail)
          have hS3 := hS2.drewN nq
          go_wp2_with fail
          refine (HZZ.out _ hS3.bl).mono ?_
          rintro e w3 ⟨he, rfl⟩
          subst he
          go_wp2_with fail
          change bodyPost _ _ _ Exit.ret _ (wroteQ (w2.drewN nq) (w.heap.size + 1) false (.slice none 0 0) (.slice none 0 0))
          have g1 := hS3.qr.write false (.slice none 0 0) (.slice none 0 0)
          have g4 := wroteQ_below hS3.bl (show w.heap.size ≤ w.heap.size + 1 by omega) false (.slice none 0 0) (.slice none 0 0)
          generalize wroteQ (w2.drewN nq) (w.heap.size + 1) false (.slice none 0 0) (.slice none 0 0) = W9 at g1 g4 ⊢
          have k0 := g1.c0
          have k1 := g1.c1
          have k2 := g1.c2
          refine bodyPost_ret (v := .tuple #[.agg #[.bool false, .slice none 0 0, .slice none 0 0], .int .i64 4]) ?_ rfl ⟨_, _, rfl, Num.zero _ _, Num.zero _ _, g4⟩
          simp [results, Tryz.results66, k0, k1, k2, go_sem]
        · rw [if_neg hz0]
          have hzz := HZ.out
          rw [decide_eq_false hz0] at hzz
          have HZZ := Lib.hid hzz
          clear hzz
          by_cases hl1 : 512 < (dg (M ^ j)).length
          · rw [if_pos (.inl hl1)]
            rw [if_pos hl1] at he1
            have qe1 : (ec1 != 0) = true := by rw [he1]; rfl
            have qe2 : (ec1 == 0) = false := by rw [he1]; rfl
            clear he1 he2 hj hl1 hz0
            go_enter Tryz.func66, Tryz.ntmps66
            go_wp2_with fail
            refine HEX.out.mono ?_
            rintro e w2 ⟨he, hS2⟩
            subst he
            have x0 := hS2.qa.c0
            have x1 := hS2.qa.c1
            have x2 := hS2.qa.c2
            have r0 := hS2.qr.c0
            have r1 := hS2.qr.c1
            have r2 := hS2.qr.c2
            have r3 := hS2.qr.fr 0
            have r4 := hS2.qr.fr 1
            have r5 := hS2.qr.fr 2
            go_wp2_with fail
            go_quiet (fail)
            have hS3 := hS2.drewN nq
            go_wp2_with fail
            refine (HZZ.out _ hS3.bl).mono ?_
            rintro e w3 ⟨he, rfl⟩
            subst he
            go_wp2_with fail
            refine (HPM.out _ hS3.bl).mono ?_
            rintro e w4 ⟨B1, m1, d1, he, hp1, hb4⟩
            subst he
            have hS4 := hS3.below hb4
            go_wp2_with fail
            refine (HPN.out _ hS4.bl).mono ?_
            rintro e w5 ⟨B2, m2, d2, he, hp2, hb5⟩
            subst he
            have hS5 := hS4.below hb5
            have hp1' := Lim.up hp1 hb5
            have z0 := hS5.qa.c0
            have y0 := hS5.qr.c0
            have y1 := hS5.qr.c1
            have y2 := hS5.qr.c2
            have y3 := hS5.qr.fr 0
            have y4 := hS5.qr.fr 1
            have y5 := hS5.qr.fr 2
            go_wp2_with fail
            change bodyPost _ _ _ Exit.ret _ (wroteQ w5 (w.heap.size + 1) false (.slice none 0 0) (.slice none 0 0))
            have g1 := hS5.qr.write false (.slice none 0 0) (.slice none 0 0)
            have g4 := wroteQ_below hS5.bl (show w.heap.size ≤ w.heap.size + 1 by omega) false (.slice none 0 0) (.slice none 0 0)
            generalize wroteQ w5 (w.heap.size + 1) false (.slice none 0 0) (.slice none 0 0) = W9 at g1 g4 ⊢
            have k0 := g1.c0
            have k1 := g1.c1
            have k2 := g1.c2
            refine bodyPost_ret (v := .tuple #[.agg #[.bool false, .slice none 0 0, .slice none 0 0], .int .i64 3]) ?_ rfl ⟨_, _, rfl, Num.zero _ _, Num.zero _ _, g4⟩
            simp [results, Tryz.results66, k0, k1, k2, go_sem]
          · rw [if_neg hl1] at he1
            have qe1 : (ec1 != 0) = false := by rw [he1]; rfl
            have qe2 : (ec1 == 0) = true := by rw [he1]; rfl
            by_cases hl2 : 512 < (dg (N ^ j)).length
            · rw [if_pos (.inr hl2)]
              rw [if_pos hl2] at he2
              have qf1 : (ec2 != 0) = true := by rw [he2]; rfl
              have qf2 : (ec2 == 0) = false := by rw [he2]; rfl
              clear he1 he2 hj hl1 hl2 hz0
              go_enter Tryz.func66, Tryz.ntmps66
              go_wp2_with fail
              refine HEX.out.mono ?_
              rintro e w2 ⟨he, hS2⟩
              subst he
              have x0 := hS2.qa.c0
              have x1 := hS2.qa.c1
              have x2 := hS2.qa.c2
              have r0 := hS2.qr.c0
              have r1 := hS2.qr.c1
              have r2 := hS2.qr.c2
              have r3 := hS2.qr.fr 0
              have r4 := hS2.qr.fr 1
              have r5 := hS2.qr.fr 2
              go_wp2_with fail
              go_quiet (fail)
              have hS3 := hS2.drewN nq
              go_wp2_with fail
              refine (HZZ.out _ hS3.bl).mono ?_
              rintro e w3 ⟨he, rfl⟩
              subst he
              go_wp2_with fail
              refine (HPM.out _ hS3.bl).mono ?_
              rintro e w4 ⟨B1, m1, d1, he, hp1, hb4⟩
              subst he
              have hS4 := hS3.below hb4
              go_wp2_with fail
              refine (HPN.out _ hS4.bl).mono ?_
              rintro e w5 ⟨B2, m2, d2, he, hp2, hb5⟩
              subst he
              have hS5 := hS4.below hb5
              have hp1' := Lim.up hp1 hb5
              have z0 := hS5.qa.c0
              have y0 := hS5.qr.c0
              have y1 := hS5.qr.c1
              have y2 := hS5.qr.c2
              have y3 := hS5.qr.fr 0
              have y4 := hS5.qr.fr 1
              have y5 := hS5.qr.fr 2
              go_wp2_with fail
              change bodyPost _ _ _ Exit.ret _ (wroteQ w5 (w.heap.size + 1) false (.slice none 0 0) (.slice none 0 0))
              have g1 := hS5.qr.write false (.slice none 0 0) (.slice none 0 0)
              have g4 := wroteQ_below hS5.bl (show w.heap.size ≤ w.heap.size + 1 by omega) false (.slice none 0 0) (.slice none 0 0)
              generalize wroteQ w5 (w.heap.size + 1) false (.slice none 0 0) (.slice none 0 0) = W9 at g1 g4 ⊢
              have k0 := g1.c0
              have k1 := g1.c1
              have k2 := g1.c2
              refine bodyPost_ret (v := .tuple #[.agg #[.bool false, .slice none 0 0, .slice none 0 0], .int .i64 3]) ?_ rfl ⟨_, _, rfl, Num.zero _ _, Num.zero _ _, g4⟩
              simp [results, Tryz.results66, k0, k1, k2, go_sem]
            · rw [if_neg (by rintro (h | h) <;> contradiction)]
              rw [if_neg hl2] at he2
              have qf1 : (ec2 != 0) = false := by rw [he2]; rfl
              have qf2 : (ec2 == 0) = true := by rw [he2]; rfl
              clear he1 he2 hj hl1 hl2 hz0
              cases s1
              · cases od
                all_goals
                  go_enter Tryz.func66, Tryz.ntmps66
                  go_wp2_with fail
                  refine HEX.out.mono ?_
                  rintro e w2 ⟨he, hS2⟩
                  subst he
                  have x0 := hS2.qa.c0
                  have x1 := hS2.qa.c1
                  have x2 := hS2.qa.c2
                  have r0 := hS2.qr.c0
                  have r1 := hS2.qr.c1
                  have r2 := hS2.qr.c2
                  have r3 := hS2.qr.fr 0
                  have r4 := hS2.qr.fr 1
                  have r5 := hS2.qr.fr 2
                  go_wp2_with fail
                  go_quiet (fail)
                  have hS3 := hS2.drewN nq
                  go_wp2_with fail
                  refine (HZZ.out _ hS3.bl).mono ?_
                  rintro e w3 ⟨he, rfl⟩
                  subst he
                  go_wp2_with fail
                  refine (HPM.out _ hS3.bl).mono ?_
                  rintro e w4 ⟨B1, m1, d1, he, hp1, hb4⟩
                  subst he
                  have hS4 := hS3.below hb4
                  go_wp2_with fail
                  refine (HPN.out _ hS4.bl).mono ?_
                  rintro e w5 ⟨B2, m2, d2, he, hp2, hb5⟩
                  subst he
                  have hS5 := hS4.below hb5
                  have hp1' := Lim.up hp1 hb5
                  have z0 := hS5.qa.c0
                  have y0 := hS5.qr.c0
                  have y1 := hS5.qr.c1
                  have y2 := hS5.qr.c2
                  have y3 := hS5.qr.fr 0
                  have y4 := hS5.qr.fr 1
                  have y5 := hS5.qr.fr 2
                  go_wp2_with fail
                  change bodyPost _ _ _ Exit.ret _ (wroteQ w5 (w.heap.size + 1) false (.slice B1 m1 d1) (.slice B2 m2 d2))
                  have g1 := hS5.qr.write false (.slice B1 m1 d1) (.slice B2 m2 d2)
                  have g2 : Num (wroteQ w5 (w.heap.size + 1) false (.slice B1 m1 d1) (.slice B2 m2 d2)) w5.heap.size (.slice B1 m1 d1) _ := Lim.wroteQ hp1' hS5.qr false _ _
                  have g3 : Num (wroteQ w5 (w.heap.size + 1) false (.slice B1 m1 d1) (.slice B2 m2 d2)) w5.heap.size (.slice B2 m2 d2) _ := Lim.wroteQ hp2 hS5.qr false _ _
                  have g4 := wroteQ_below hS5.bl (show w.heap.size ≤ w.heap.size + 1 by omega) false (.slice B1 m1 d1) (.slice B2 m2 d2)
                  have g5 : w5.heap.size ≤ (wroteQ w5 (w.heap.size + 1) false (.slice B1 m1 d1) (.slice B2 m2 d2)).heap.size := by simp [wroteQ, World.setCell]
                  generalize wroteQ w5 (w.heap.size + 1) false (.slice B1 m1 d1) (.slice B2 m2 d2) = W9 at g1 g2 g3 g4 g5 ⊢
                  have k0 := g1.c0
                  have k1 := g1.c1
                  have k2 := g1.c2
                  refine bodyPost_ret (v := .tuple #[.agg #[.bool false, .slice B1 m1 d1, .slice B2 m2 d2], .int .i64 0]) ?_ rfl ⟨_, _, by first | rfl | simp, Lim.more g2 g5, Lim.more g3 g5, g4⟩
                  simp [results, Tryz.results66, k0, k1, k2, go_sem]
              · cases od
                · go_enter Tryz.func66, Tryz.ntmps66
                  go_wp2_with fail
                  refine HEX.out.mono ?_
                  rintro e w2 ⟨he, hS2⟩
                  subst he
                  have x0 := hS2.qa.c0
                  have x1 := hS2.qa.c1
                  have x2 := hS2.qa.c2
                  have r0 := hS2.qr.c0
                  have r1 := hS2.qr.c1
                  have r2 := hS2.qr.c2
                  have r3 := hS2.qr.fr 0
                  have r4 := hS2.qr.fr 1
                  have r5 := hS2.qr.fr 2
                  go_wp2_with fail
                  go_quiet (fail)
                  have hS3 := hS2.drewN nq
                  go_wp2_with fail
                  refine (HZZ.out _ hS3.bl).mono ?_
                  rintro e w3 ⟨he, rfl⟩
                  subst he
                  go_wp2_with fail
                  refine (HPM.out _ hS3.bl).mono ?_
                  rintro e w4 ⟨B1, m1, d1, he, hp1, hb4⟩
                  subst he
                  have hS4 := hS3.below hb4
                  go_wp2_with fail
                  refine (HPN.out _ hS4.bl).mono ?_
                  rintro e w5 ⟨B2, m2, d2, he, hp2, hb5⟩
                  subst he
                  have hS5 := hS4.below hb5
                  have hp1' := Lim.up hp1 hb5
                  have z0 := hS5.qa.c0
                  have y0 := hS5.qr.c0
                  have y1 := hS5.qr.c1
                  have y2 := hS5.qr.c2
                  have y3 := hS5.qr.fr 0
                  have y4 := hS5.qr.fr 1
                  have y5 := hS5.qr.fr 2
                  go_wp2_with fail
                  change bodyPost _ _ _ Exit.ret _ (wroteQ w5 (w.heap.size + 1) false (.slice B1 m1 d1) (.slice B2 m2 d2))
                  have g1 := hS5.qr.write false (.slice B1 m1 d1) (.slice B2 m2 d2)
                  have g2 : Num (wroteQ w5 (w.heap.size + 1) false (.slice B1 m1 d1) (.slice B2 m2 d2)) w5.heap.size (.slice B1 m1 d1) _ := Lim.wroteQ hp1' hS5.qr false _ _
                  have g3 : Num (wroteQ w5 (w.heap.size + 1) false (.slice B1 m1 d1) (.slice B2 m2 d2)) w5.heap.size (.slice B2 m2 d2) _ := Lim.wroteQ hp2 hS5.qr false _ _
                  have g4 := wroteQ_below hS5.bl (show w.heap.size ≤ w.heap.size + 1 by omega) false (.slice B1 m1 d1) (.slice B2 m2 d2)
                  have g5 : w5.heap.size ≤ (wroteQ w5 (w.heap.size + 1) false (.slice B1 m1 d1) (.slice B2 m2 d2)).heap.size := by simp [wroteQ, World.setCell]
                  generalize wroteQ w5 (w.heap.size + 1) false (.slice B1 m1 d1) (.slice B2 m2 d2) = W9 at g1 g2 g3 g4 g5 ⊢
                  have k0 := g1.c0
                  have k1 := g1.c1
                  have k2 := g1.c2
                  refine bodyPost_ret (v := .tuple #[.agg #[.bool false, .slice B1 m1 d1, .slice B2 m2 d2], .int .i64 0]) ?_ rfl ⟨_, _, by first | rfl | simp, Lim.more g2 g5, Lim.more g3 g5, g4⟩
                  simp [results, Tryz.results66, k0, k1, k2, go_sem]
                · go_enter Tryz.func66, Tryz.ntmps66
                  go_wp2_with fail
                  refine HEX.out.mono ?_
                  rintro e w2 ⟨he, hS2⟩
                  subst he
                  have x0 := hS2.qa.c0
                  have x1 := hS2.qa.c1
                  have x2 := hS2.qa.c2
                  have r0 := hS2.qr.c0
                  have r1 := hS2.qr.c1
                  have r2 := hS2.qr.c2
                  have r3 := hS2.qr.fr 0
                  have r4 := hS2.qr.fr 1
                  have r5 := hS2.qr.fr 2
                  go_wp2_with fail
                  go_quiet (fail)
                  have hS3 := hS2.drewN nq
                  go_wp2_with fail
                  refine (HZZ.out _ hS3.bl).mono ?_
                  rintro e w3 ⟨he, rfl⟩
                  subst he
                  go_wp2_with fail
                  refine (HPM.out _ hS3.bl).mono ?_
                  rintro e w4 ⟨B1, m1, d1, he, hp1, hb4⟩
                  subst he
                  have hS4 := hS3.below hb4
                  go_wp2_with fail
                  refine (HPN.out _ hS4.bl).mono ?_
                  rintro e w5 ⟨B2, m2, d2, he, hp2, hb5⟩
                  subst he
                  have hS5 := hS4.below hb5
                  have hp1' := Lim.up hp1 hb5
                  have z0 := hS5.qa.c0
                  have y0 := hS5.qr.c0
                  have y1 := hS5.qr.c1
                  have y2 := hS5.qr.c2
                  have y3 := hS5.qr.fr 0
                  have y4 := hS5.qr.fr 1
                  have y5 := hS5.qr.fr 2
                  go_wp2_with fail
                  change bodyPost _ _ _ Exit.ret _ (wroteQ w5 (w.heap.size + 1) true (.slice B1 m1 d1) (.slice B2 m2 d2))
                  have g1 := hS5.qr.write true (.slice B1 m1 d1) (.slice B2 m2 d2)
                  have g2 : Num (wroteQ w5 (w.heap.size + 1) true (.slice B1 m1 d1) (.slice B2 m2 d2)) w5.heap.size (.slice B1 m1 d1) _ := Lim.wroteQ hp1' hS5.qr true _ _
                  have g3 : Num (wroteQ w5 (w.heap.size + 1) true (.slice B1 m1 d1) (.slice B2 m2 d2)) w5.heap.size (.slice B2 m2 d2) _ := Lim.wroteQ hp2 hS5.qr true _ _
                  have g4 := wroteQ_below hS5.bl (show w.heap.size ≤ w.heap.size + 1 by omega) true (.slice B1 m1 d1) (.slice B2 m2 d2)
                  have g5 : w5.heap.size ≤ (wroteQ w5 (w.heap.size + 1) true (.slice B1 m1 d1) (.slice B2 m2 d2)).heap.size := by simp [wroteQ, World.setCell]
                  generalize wroteQ w5 (w.heap.size + 1) true (.slice B1 m1 d1) (.slice B2 m2 d2) = W9 at g1 g2 g3 g4 g5 ⊢
                  have k0 := g1.c0
                  have k1 := g1.c1
                  have k2 := g1.c2
                  refine bodyPost_ret (v := .tuple #[.agg #[.bool true, .slice B1 m1 d1, .slice B2 m2 d2], .int .i64 0]) ?_ rfl ⟨_, _, by first | rfl | simp, Lim.more g2 g5, Lim.more g3 g5, g4⟩
                  simp [results, Tryz.results66, k0, k1, k2, go_sem]
  · rw [if_neg h0]
    have q1 : (ec == 0) = false := by simp [h0]
    have q2 : (ec != 0) = true := by simp [h0]
    subst hW
    clear h0
    go_enter Tryz.func66, Tryz.ntmps66
    go_wp2_with fail
    refine HEX.out.mono ?_
    rintro e w2 ⟨he, hS2⟩
    subst he
    have x0 := hS2.qa.c0
    have x1 := hS2.qa.c1
    have x2 := hS2.qa.c2
    have r0 := hS2.qr.c0
    have r1 := hS2.qr.c1
    have r2 := hS2.qr.c2
    have r3 := hS2.qr.fr 0
    have r4 := hS2.qr.fr 1
    have r5 := hS2.qr.fr 2
    go_wp2_with fail
    change bodyPost _ _ _ Exit.ret _ (wroteQ w2 (w.heap.size + 1) false (.slice none 0 0) (.slice none 0 0))
    have g1 := hS2.qr.write false (.slice none 0 0) (.slice none 0 0)
    have g4 := wroteQ_below hS2.bl (show w.heap.size ≤ w.heap.size + 1 by omega) false (.slice none 0 0) (.slice none 0 0)
    generalize wroteQ w2 (w.heap.size + 1) false (.slice none 0 0) (.slice none 0 0) = W9 at g1 g4 ⊢
    have k0 := g1.c0
    have k1 := g1.c1
    have k2 := g1.c2
    refine bodyPost_ret (v := .tuple #[.agg #[.bool false, .slice none 0 0, .slice none 0 0], .int .i64 ec]) ?_ rfl ⟨_, _, rfl, Num.zero _ _, Num.zero _ _, g4⟩
    simp [results, Tryz.results66, k0, k1, k2, go_sem]
end Go.Proofs.YtlababdfdjjjaaaGreatDoor
