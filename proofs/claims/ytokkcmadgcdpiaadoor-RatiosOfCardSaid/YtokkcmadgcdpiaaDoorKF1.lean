import Derived.Test.YtokkcmadgcdpiaaDoorKE3
import Derived.Test.YtokkcmadgcdpiaaDoorKR6
namespace Go.Proofs.YtokkcmadgcdpiaaDoor
open Go.RowKit

/-! The law on Of, Terms and Check. -/
theorem te_u {w : World} {x : Rt} {e : Ending} {w' : World} (h : TePost w x e w') : ∃ v, e = .returned (.tuple #[v, .int .i64 (if x.err = 0 then x.d else 0), .int .i64 x.err]) ∧ TmC w' w'.heap.size v (if x.err = 0 then nz x.v.zl else []) ∧ Below w.heap.size w w' := by
  rcases h with ⟨h0, v, he, hr, hb⟩ | ⟨h0, he, hb⟩
  · rw [if_pos h0, if_pos h0, h0]
    exact ⟨v, he, hr.tmc, hb⟩
  · rw [if_neg h0, if_neg h0]
    exact ⟨_, he, ⟨none, 0, rfl, Nat.le_refl _, fun h => absurd rfl h⟩, hb⟩
theorem nz_six (v : V6) : (nz v.zl).length ≤ 6 := by
  refine Nat.le_trans (List.length_filter_le _ _) ?_
  unfold V6.zl
  rw [List.length_zip]
  exact Nat.min_le_left _ _
set_option maxRecDepth 100000 in
set_option maxHeartbeats 8000000 in
theorem lawOfs_any (x0 x1 x2 x3 x4 x5 xd num den : Int) (w : World) (hp : PrL w) :
    Calls Tryd.prog 5 #[.agg #[.int .i64 x0, .int .i64 x1, .int .i64 x2, .int .i64 x3, .int .i64 x4, .int .i64 x5, .int .i64 xd], .int .i64 num, .int .i64 den] w fun e w' => e = .returned (.bool true) ∧ Below w.heap.size w w' := by
  have HP := Lib.hid hp
  have ho := fun W h => Of_any num den W h
  have hro := fun W => rOf_any num den W
  have ht := fun W h => (Terms_any x0 x1 x2 x3 x4 x5 xd W h).mono fun e w' h => te_u h
  have hrt := fun W => (rTerms_any x0 x1 x2 x3 x4 x5 xd W).mono fun e w' h => te_u h
  have hk := fun W => Check_any x0 x1 x2 x3 x4 x5 xd W
  have hrk := fun W => rCheck_any x0 x1 x2 x3 x4 x5 xd W
  have hl : (if Rt.err ⟨⟨x0, x1, x2, x3, x4, x5⟩, xd⟩ = 0 then nz (V6.zl ⟨x0, x1, x2, x3, x4, x5⟩) else []).length ≤ 1000000 := by
    have := nz_six ⟨x0, x1, x2, x3, x4, x5⟩
    split
    · omega
    · simp
  generalize ofW num den = RA at *
  obtain ⟨⟨⟨p0, p1, p2, p3, p4, p5⟩, pd⟩, pe⟩ := RA
  unfold RtPost rtv at ho hro
  simp only at ho hro ht hrt
  generalize (if Rt.err ⟨⟨x0, x1, x2, x3, x4, x5⟩, xd⟩ = 0 then nz (V6.zl ⟨x0, x1, x2, x3, x4, x5⟩) else []) = LL at *
  generalize (if Rt.err ⟨⟨x0, x1, x2, x3, x4, x5⟩, xd⟩ = 0 then xd else 0) = NN at *
  generalize Rt.err ⟨⟨x0, x1, x2, x3, x4, x5⟩, xd⟩ = EE at *
  have HO := Lib.hid ho
  have HRO := Lib.hid hro
  have HT := Lib.hid ht
  have HRT := Lib.hid hrt
  have HK := Lib.hid hk
  have HRC := Lib.hid hrk
  have HL := Lib.hid hl
  clear ho hro ht hrt hk hrk hl hp
  have HR1 := Lib.hid (RowI.of_alloc w 34 [x0, x1, x2, x3, x4, x5, xd])
  have HB := Lib.hid (belA w (.cells #[.int .i64 x0, .int .i64 x1, .int .i64 x2, .int .i64 x3, .int .i64 x4, .int .i64 x5, .int .i64 xd] 34))
  have hz := HB.out.size
  go_enter Tryd.func5, Tryd.ntmps5
  go_wp2_with fail
  refine (HO.out _ (HP.out.below HB.out)).mono ?_
  rintro e w1 ⟨he, hb⟩
  subst he
  have tHR1 := HR1.out.up hb
  have tB := HB.out.trans (hb.mono hz)
  clear HB hz hb HR1
  have HR1 := Lib.hid tHR1
  have HB := Lib.hid tB
  have hz := tB.size
  clear tB tHR1
  obtain ⟨g1, hg1⟩ : ∃ g1, g1 = w1.heap.size := ⟨_, rfl⟩
  go_wp2_with fail
  refine (HRO.out _).mono ?_
  rintro e w2 ⟨he, hb⟩
  subst he
  have hb2 := (belA w1 (.cells #[.int .i64 p0, .int .i64 p1, .int .i64 p2, .int .i64 p3, .int .i64 p4, .int .i64 p5, .int .i64 pd] 34)).trans (hb.mono (by simp))
  have tHR1 := HR1.out.up hb2
  have tHC := (RowI.of_alloc w1 34 [p0, p1, p2, p3, p4, p5, pd]).up hb
  have tB := HB.out.trans (hb2.mono hz)
  rw [← hg1] at tHC ⊢
  have HG1 := Lib.hid hg1
  clear HB hz hb hb2 hg1 HR1
  have HR1 := Lib.hid tHR1
  have HC := Lib.hid tHC
  have HB := Lib.hid tB
  have hz := tB.size
  clear tB tHR1 tHC
  obtain ⟨g2, hg2⟩ : ∃ g2, g2 = w2.heap.size := ⟨_, rfl⟩
  obtain ⟨c0, c1, c2, c3, c4, c5, c6⟩ := (HR1.out.alloc (.cells #[.int .i64 p0, .int .i64 p1, .int .i64 p2, .int .i64 p3, .int .i64 p4, .int .i64 p5, .int .i64 pd] 34)).r7
  simp only [Nat.zero_add] at c0 c1 c2 c3 c4 c5 c6
  go_wp2_with fail
  refine (HT.out _ (HP.out.below (HB.out.trans ((belA w2 (.cells #[.int .i64 p0, .int .i64 p1, .int .i64 p2, .int .i64 p3, .int .i64 p4, .int .i64 p5, .int .i64 pd] 34)).mono hz)))).mono ?_
  rintro e w3 ⟨v1, he, ht1, hb⟩
  subst he
  clear c0 c1 c2 c3 c4 c5 c6
  have hb2 := (belA w2 (.cells #[.int .i64 p0, .int .i64 p1, .int .i64 p2, .int .i64 p3, .int .i64 p4, .int .i64 p5, .int .i64 pd] 34)).trans (hb.mono (by simp))
  have tHR1 := HR1.out.up hb2
  have tHC := HC.out.up hb2
  have tHD := (RowI.of_alloc w2 34 [p0, p1, p2, p3, p4, p5, pd]).up hb
  have tB := HB.out.trans (hb2.mono hz)
  rw [← hg2] at tHD ⊢
  have HG2 := Lib.hid hg2
  clear HB hz hb hb2 hg2 HR1 HC
  have HR1 := Lib.hid tHR1
  have HC := Lib.hid tHC
  have HD := Lib.hid tHD
  have HB := Lib.hid tB
  have hz := tB.size
  clear tB tHR1 tHC tHD
  obtain ⟨c0, c1, c2, c3, c4, c5, c6⟩ := HR1.out.r7
  simp only [Nat.zero_add] at c0 c1 c2 c3 c4 c5 c6
  go_wp2_with fail
  refine (HRT.out _).mono ?_
  rintro e w4 ⟨v2, he, ht2, hb⟩
  subst he
  clear c0 c1 c2 c3 c4 c5 c6
  have ht1' := ht1.up hb
  have tHR1 := HR1.out.up hb
  have tHC := HC.out.up hb
  have tHD := HD.out.up hb
  have tB := HB.out.trans (hb.mono hz)
  clear HB hz hb HR1 HC HD
  have HR1 := Lib.hid tHR1
  have HC := Lib.hid tHC
  have HD := Lib.hid tHD
  have HB := Lib.hid tB
  have hz := tB.size
  clear tB tHR1 tHC tHD
  have hCK : ∀ W, Below w4.heap.size w4 W → Calls Tryd.prog 23 #[.agg #[.int .i64 x0, .int .i64 x1, .int .i64 x2, .int .i64 x3, .int .i64 x4, .int .i64 x5, .int .i64 xd]] W fun e w' => e = .returned (.int .i64 EE) ∧ Below w4.heap.size w4 w' := fun W hW => (HK.out W).mono fun e w' h => ⟨h.1, hW.trans (h.2.mono hW.size)⟩
  have HCK := Lib.hid hCK
  clear hCK
  have hRK : ∀ W, Below w4.heap.size w4 W → Calls Tryd.prog 24 #[.agg #[.int .i64 x0, .int .i64 x1, .int .i64 x2, .int .i64 x3, .int .i64 x4, .int .i64 x5, .int .i64 xd]] W fun e w' => e = .returned (.int .i64 EE) ∧ Below w4.heap.size w4 w' := fun W hW => (HRC.out W).mono fun e w' h => ⟨h.1, hW.trans (h.2.mono hW.size)⟩
  have HRK := Lib.hid hRK
  clear hRK
  have hSM : ∀ W, Below w4.heap.size w4 W → Calls Tryd.prog 25 #[v1, v2] W fun e w' => e = .returned (.bool true) ∧ Below w4.heap.size w4 w' := fun W hW => (Same_any v1 v2 LL W (ht1'.up hW) (ht2.up hW) HL.out).mono fun e w' h => ⟨h.1, hW.trans (h.2.mono hW.size)⟩
  have HSM := Lib.hid hSM
  clear hSM
  have hAW : ∀ W, Below w4.heap.size w4 W → Calls Tryd.prog 14 #[] W fun e w' => e = .returned (.bool true) ∧ Below w4.heap.size w4 w' := fun W hW => (awake_any W (HP.out.below (HB.out.trans (hW.mono hz)))).mono fun e w' h => ⟨h.1, hW.trans (h.2.mono hW.size)⟩
  have HAW := Lib.hid hAW
  clear hAW
  clear ht1 ht1' ht2 HK HRC HT HRT HO HRO HL
  have eqp := fun W => eql_self p0 p1 p2 p3 p4 p5 pd W
  obtain ⟨c0, c1, c2, c3, c4, c5, c6⟩ := HR1.out.r7
  simp only [Nat.zero_add] at c0 c1 c2 c3 c4 c5 c6
  obtain ⟨m0, m1, m2, m3, m4, m5, m6⟩ := HC.out.r7
  simp only [Nat.zero_add] at m0 m1 m2 m3 m4 m5 m6
  obtain ⟨n0, n1, n2, n3, n4, n5, n6⟩ := HD.out.r7
  simp only [Nat.zero_add] at n0 n1 n2 n3 n4 n5 n6
  go_wp2_with fail
  refine wp_region_noPanic ?_
  refine wp_region_held_drew (S := (fun w' => w'.cell? ⟨w.heap.size, 0, none⟩ = some (.int .i64 x0) ∧ w'.cell? ⟨w.heap.size, 1, none⟩ = some (.int .i64 x1) ∧ w'.cell? ⟨w.heap.size, 2, none⟩ = some (.int .i64 x2) ∧ w'.cell? ⟨w.heap.size, 3, none⟩ = some (.int .i64 x3) ∧ w'.cell? ⟨w.heap.size, 4, none⟩ = some (.int .i64 x4) ∧ w'.cell? ⟨w.heap.size, 5, none⟩ = some (.int .i64 x5) ∧ w'.cell? ⟨w.heap.size, 6, none⟩ = some (.int .i64 xd) ∧ w'.cell? ⟨g1, 0, none⟩ = some (.int .i64 p0) ∧ w'.cell? ⟨g1, 1, none⟩ = some (.int .i64 p1) ∧ w'.cell? ⟨g1, 2, none⟩ = some (.int .i64 p2) ∧ w'.cell? ⟨g1, 3, none⟩ = some (.int .i64 p3) ∧ w'.cell? ⟨g1, 4, none⟩ = some (.int .i64 p4) ∧ w'.cell? ⟨g1, 5, none⟩ = some (.int .i64 p5) ∧ w'.cell? ⟨g1, 6, none⟩ = some (.int .i64 pd) ∧ w'.cell? ⟨g2, 0, none⟩ = some (.int .i64 p0) ∧ w'.cell? ⟨g2, 1, none⟩ = some (.int .i64 p1) ∧ w'.cell? ⟨g2, 2, none⟩ = some (.int .i64 p2) ∧ w'.cell? ⟨g2, 3, none⟩ = some (.int .i64 p3) ∧ w'.cell? ⟨g2, 4, none⟩ = some (.int .i64 p4) ∧ w'.cell? ⟨g2, 5, none⟩ = some (.int .i64 p5) ∧ w'.cell? ⟨g2, 6, none⟩ = some (.int .i64 pd))) (by kernel_rfl) (by refine ⟨?_, ?_, ?_, ?_, ?_, ?_, ?_, ?_, ?_, ?_, ?_, ?_, ?_, ?_, ?_, ?_, ?_, ?_, ?_, ?_, ?_⟩ <;> first | with_reducible assumption | go_keep) (fun hHeld => ?_)
  refine wpAnyH_take (i := 0) (oi := ⟨some 41, _, _, _, _, _⟩) (v := ?_) rfl (by kernel_rfl) (by kernel_rfl) (by kernel_rfl) (fun _ _ _ h => h) (Or.inl ⟨by rfl, ?_⟩) (by assumption) ?_
  rotate_left
  · (intro w hSw; (try dsimp only at hSw); go_simp; (try (with_reducible rfl)))
  (try simp only [Act.put, List.setIfInBounds_toArray, List.set_cons_zero, List.set_cons_succ])
  refine wpAnyH_take (i := 2) (oi := ⟨some 43, _, _, _, _, _⟩) (v := ?_) rfl (by kernel_rfl) (by kernel_rfl) (by kernel_rfl) (fun _ _ _ h => h) (Or.inl ⟨by rfl, ?_⟩) (by assumption) ?_
  rotate_left
  · (intro w hSw; (try dsimp only at hSw); go_simp; (try (with_reducible rfl)))
  (try simp only [Act.put, List.setIfInBounds_toArray, List.set_cons_zero, List.set_cons_succ])
  refine wpAnyH_ready (rs := [1]) (by kernel_rfl) (by simp) (AllReadyH.cons (o := ⟨some 42, _, _, _, _, _⟩) rfl (fun K hK => ?_) AllReadyH.nil)
  rw [if_pos (by rfl)]
  go_simp
  go_at_call 23
  refine Calls.mono (HCK.out _ ((Below.refl _ w4).drew)) ?_
  rintro e u1 ⟨he, hb1⟩
  subst he
  clear HCK
  clear c0 c1 c2 c3 c4 c5 c6 m0 m1 m2 m3 m4 m5 m6 n0 n1 n2 n3 n4 n5 n6
  obtain ⟨c0, c1, c2, c3, c4, c5, c6⟩ := (HR1.out.up hb1).r7
  simp only [Nat.zero_add] at c0 c1 c2 c3 c4 c5 c6
  obtain ⟨m0, m1, m2, m3, m4, m5, m6⟩ := (HC.out.up hb1).r7
  simp only [Nat.zero_add] at m0 m1 m2 m3 m4 m5 m6
  obtain ⟨n0, n1, n2, n3, n4, n5, n6⟩ := (HD.out.up hb1).r7
  simp only [Nat.zero_add] at n0 n1 n2 n3 n4 n5 n6
  have B1 := Lib.hid hb1
  clear hb1
  (try go_wp2_with fail)
  refine hK.out _ _ (by (try dsimp only); refine ⟨?_, ?_, ?_, ?_, ?_, ?_, ?_, ?_, ?_, ?_, ?_, ?_, ?_, ?_, ?_, ?_, ?_, ?_, ?_, ?_, ?_⟩ <;> first | with_reducible assumption | go_keep) (fun hHeld => ?_)
  clear hK K
  (try simp only [Act.put, List.setIfInBounds_toArray, List.set_cons_zero, List.set_cons_succ])
  refine wpAnyH_ready (rs := [3]) (by kernel_rfl) (by simp) (AllReadyH.cons (o := ⟨some 44, _, _, _, _, _⟩) rfl (fun K hK => ?_) AllReadyH.nil)
  rw [if_pos (by rfl)]
  go_simp
  go_at_call 24
  refine Calls.mono (HRK.out _ B1.out) ?_
  rintro e u2 ⟨he, hb2⟩
  subst he
  clear HRK
  clear c0 c1 c2 c3 c4 c5 c6 m0 m1 m2 m3 m4 m5 m6 n0 n1 n2 n3 n4 n5 n6
  obtain ⟨c0, c1, c2, c3, c4, c5, c6⟩ := (HR1.out.up hb2).r7
  simp only [Nat.zero_add] at c0 c1 c2 c3 c4 c5 c6
  obtain ⟨m0, m1, m2, m3, m4, m5, m6⟩ := (HC.out.up hb2).r7
  simp only [Nat.zero_add] at m0 m1 m2 m3 m4 m5 m6
  obtain ⟨n0, n1, n2, n3, n4, n5, n6⟩ := (HD.out.up hb2).r7
  simp only [Nat.zero_add] at n0 n1 n2 n3 n4 n5 n6
  have B2 := Lib.hid hb2
  clear hb2
  (try go_wp2_with fail)
  refine hK.out _ _ (by (try dsimp only); refine ⟨?_, ?_, ?_, ?_, ?_, ?_, ?_, ?_, ?_, ?_, ?_, ?_, ?_, ?_, ?_, ?_, ?_, ?_, ?_, ?_, ?_⟩ <;> first | with_reducible assumption | go_keep) (fun hHeld => ?_)
  clear hK K
  (try simp only [Act.put, List.setIfInBounds_toArray, List.set_cons_zero, List.set_cons_succ])
  refine wpAnyH_take (i := 4) (oi := ⟨some 45, _, _, _, _, _⟩) (v := ?_) rfl (by kernel_rfl) (by kernel_rfl) (by kernel_rfl) (fun _ _ _ h => h) (Or.inl ⟨by rfl, ?_⟩) (by assumption) ?_
  rotate_left
  · (intro w hSw; (try dsimp only at hSw); go_simp; (try (with_reducible rfl)))
  (try simp only [Act.put, List.setIfInBounds_toArray, List.set_cons_zero, List.set_cons_succ])
  refine wpAnyH_take (i := 5) (oi := ⟨some 46, _, _, _, _, _⟩) (v := ?_) rfl (by kernel_rfl) (by kernel_rfl) (by kernel_rfl) (fun _ _ _ h => h) (Or.inl ⟨by rfl, ?_⟩) (by assumption) ?_
  rotate_left
  · (intro w hSw; (try dsimp only at hSw); go_simp; (try (with_reducible rfl)))
  (try simp only [Act.put, List.setIfInBounds_toArray, List.set_cons_zero, List.set_cons_succ])
  refine wpAnyH_take (i := 6) (oi := ⟨some 47, _, _, _, _, _⟩) (v := ?_) rfl (by kernel_rfl) (by kernel_rfl) (by kernel_rfl) (fun _ _ _ h => h) (Or.inl ⟨by rfl, ?_⟩) (by assumption) ?_
  rotate_left
  · (intro w hSw; (try dsimp only at hSw); go_simp; (try (with_reducible rfl)))
  (try simp only [Act.put, List.setIfInBounds_toArray, List.set_cons_zero, List.set_cons_succ])
  refine wpAnyH_take (i := 7) (oi := ⟨some 48, _, _, _, _, _⟩) (v := ?_) rfl (by kernel_rfl) (by kernel_rfl) (by kernel_rfl) (fun _ _ _ h => h) (Or.inl ⟨by rfl, ?_⟩) (by assumption) ?_
  rotate_left
  · (intro w hSw; (try dsimp only at hSw); go_simp; (try (with_reducible rfl)))
  (try simp only [Act.put, List.setIfInBounds_toArray, List.set_cons_zero, List.set_cons_succ])
  refine wpAnyH_take (i := 8) (oi := ⟨some 49, _, _, _, _, _⟩) (v := ?_) rfl (by kernel_rfl) (by kernel_rfl) (by kernel_rfl) (fun _ _ _ h => h) (Or.inl ⟨by rfl, ?_⟩) (by assumption) ?_
  rotate_left
  · (intro w hSw; (try dsimp only at hSw); go_simp; (try (with_reducible rfl)))
  (try simp only [Act.put, List.setIfInBounds_toArray, List.set_cons_zero, List.set_cons_succ])
  refine wpAnyH_take (i := 9) (oi := ⟨some 50, _, _, _, _, _⟩) (v := ?_) rfl (by kernel_rfl) (by kernel_rfl) (by kernel_rfl) (fun _ _ _ h => h) (Or.inl ⟨by rfl, ?_⟩) (by assumption) ?_
  rotate_left
  · (intro w hSw; (try dsimp only at hSw); go_simp; (try (with_reducible rfl)))
  (try simp only [Act.put, List.setIfInBounds_toArray, List.set_cons_zero, List.set_cons_succ])
  refine wpAnyH_take (i := 10) (oi := ⟨some 51, _, _, _, _, _⟩) (v := ?_) rfl (by kernel_rfl) (by kernel_rfl) (by kernel_rfl) (fun _ _ _ h => h) (Or.inl ⟨by rfl, ?_⟩) (by assumption) ?_
  rotate_left
  · (intro w hSw; (try dsimp only at hSw); go_simp; (try (with_reducible rfl)))
  (try simp only [Act.put, List.setIfInBounds_toArray, List.set_cons_zero, List.set_cons_succ])
  refine wpAnyH_take (i := 11) (oi := ⟨some 52, _, _, _, _, _⟩) (v := ?_) rfl (by kernel_rfl) (by kernel_rfl) (by kernel_rfl) (fun _ _ _ h => h) (Or.inl ⟨by rfl, ?_⟩) (by assumption) ?_
  rotate_left
  · (intro w hSw; (try dsimp only at hSw); go_simp; (try (with_reducible rfl)))
  (try simp only [Act.put, List.setIfInBounds_toArray, List.set_cons_zero, List.set_cons_succ])
  refine wpAnyH_take (i := 12) (oi := ⟨some 53, _, _, _, _, _⟩) (v := ?_) rfl (by kernel_rfl) (by kernel_rfl) (by kernel_rfl) (fun _ _ _ h => h) (Or.inl ⟨by rfl, ?_⟩) (by assumption) ?_
  rotate_left
  · (intro w hSw; (try dsimp only at hSw); go_simp; (try (with_reducible rfl)))
  (try simp only [Act.put, List.setIfInBounds_toArray, List.set_cons_zero, List.set_cons_succ])
  refine wpAnyH_take (i := 13) (oi := ⟨some 54, _, _, _, _, _⟩) (v := ?_) rfl (by kernel_rfl) (by kernel_rfl) (by kernel_rfl) (fun _ _ _ h => h) (Or.inl ⟨by rfl, ?_⟩) (by assumption) ?_
  rotate_left
  · (intro w hSw; (try dsimp only at hSw); go_simp; (try (with_reducible rfl)))
  (try simp only [Act.put, List.setIfInBounds_toArray, List.set_cons_zero, List.set_cons_succ])
  refine wpAnyH_take (i := 14) (oi := ⟨some 55, _, _, _, _, _⟩) (v := ?_) rfl (by kernel_rfl) (by kernel_rfl) (by kernel_rfl) (fun _ _ _ h => h) (Or.inl ⟨by rfl, ?_⟩) (by assumption) ?_
  rotate_left
  · (intro w hSw; (try dsimp only at hSw); go_simp; (try (with_reducible rfl)))
  (try simp only [Act.put, List.setIfInBounds_toArray, List.set_cons_zero, List.set_cons_succ])
  refine wpAnyH_take (i := 15) (oi := ⟨some 56, _, _, _, _, _⟩) (v := ?_) rfl (by kernel_rfl) (by kernel_rfl) (by kernel_rfl) (fun _ _ _ h => h) (Or.inl ⟨by rfl, ?_⟩) (by assumption) ?_
  rotate_left
  · (intro w hSw; (try dsimp only at hSw); go_simp; (try (with_reducible rfl)))
  (try simp only [Act.put, List.setIfInBounds_toArray, List.set_cons_zero, List.set_cons_succ])
  refine wpAnyH_take (i := 16) (oi := ⟨some 57, _, _, _, _, _⟩) (v := ?_) rfl (by kernel_rfl) (by kernel_rfl) (by kernel_rfl) (fun _ _ _ h => h) (Or.inl ⟨by rfl, ?_⟩) (by assumption) ?_
  rotate_left
  · (intro w hSw; (try dsimp only at hSw); go_simp; (try (with_reducible rfl)))
  (try simp only [Act.put, List.setIfInBounds_toArray, List.set_cons_zero, List.set_cons_succ])
  refine wpAnyH_take (i := 17) (oi := ⟨some 58, _, _, _, _, _⟩) (v := ?_) rfl (by kernel_rfl) (by kernel_rfl) (by kernel_rfl) (fun _ _ _ h => h) (Or.inl ⟨by rfl, ?_⟩) (by assumption) ?_
  rotate_left
  · (intro w hSw; (try dsimp only at hSw); go_simp; (try (with_reducible rfl)))
  (try simp only [Act.put, List.setIfInBounds_toArray, List.set_cons_zero, List.set_cons_succ])
  refine wpAnyH_ready (rs := [18]) (by kernel_rfl) (by simp) (AllReadyH.cons (o := ⟨some 59, _, _, _, _, _⟩) rfl (fun K hK => ?_) AllReadyH.nil)
  rw [if_pos (by rfl)]
  go_simp
  go_at_call 25
  refine Calls.mono (HSM.out _ B2.out) ?_
  rintro e u3 ⟨he, hb3⟩
  subst he
  clear HSM
  clear c0 c1 c2 c3 c4 c5 c6 m0 m1 m2 m3 m4 m5 m6 n0 n1 n2 n3 n4 n5 n6
  obtain ⟨c0, c1, c2, c3, c4, c5, c6⟩ := (HR1.out.up hb3).r7
  simp only [Nat.zero_add] at c0 c1 c2 c3 c4 c5 c6
  obtain ⟨m0, m1, m2, m3, m4, m5, m6⟩ := (HC.out.up hb3).r7
  simp only [Nat.zero_add] at m0 m1 m2 m3 m4 m5 m6
  obtain ⟨n0, n1, n2, n3, n4, n5, n6⟩ := (HD.out.up hb3).r7
  simp only [Nat.zero_add] at n0 n1 n2 n3 n4 n5 n6
  have B3 := Lib.hid hb3
  clear hb3
  (try go_wp2_with fail)
  refine hK.out _ _ (by (try dsimp only); refine ⟨?_, ?_, ?_, ?_, ?_, ?_, ?_, ?_, ?_, ?_, ?_, ?_, ?_, ?_, ?_, ?_, ?_, ?_, ?_, ?_, ?_⟩ <;> first | with_reducible assumption | go_keep) (fun hHeld => ?_)
  clear hK K
  (try simp only [Act.put, List.setIfInBounds_toArray, List.set_cons_zero, List.set_cons_succ])
  refine wpAnyH_take (i := 19) (oi := ⟨some 60, _, _, _, _, _⟩) (v := ?_) rfl (by kernel_rfl) (by kernel_rfl) (by kernel_rfl) (fun _ _ _ h => h) (Or.inl ⟨by rfl, ?_⟩) (by assumption) ?_
  rotate_left
  · (intro w hSw; (try dsimp only at hSw); go_simp; (try (with_reducible rfl)))
  (try simp only [Act.put, List.setIfInBounds_toArray, List.set_cons_zero, List.set_cons_succ])
  refine wpAnyH_take (i := 20) (oi := ⟨some 61, _, _, _, _, _⟩) (v := ?_) rfl (by kernel_rfl) (by kernel_rfl) (by kernel_rfl) (fun _ _ _ h => h) (Or.inl ⟨by rfl, ?_⟩) (by assumption) ?_
  rotate_left
  · (intro w hSw; (try dsimp only at hSw); go_simp; (try (with_reducible rfl)))
  (try simp only [Act.put, List.setIfInBounds_toArray, List.set_cons_zero, List.set_cons_succ])
  refine wpAnyH_take (i := 21) (oi := ⟨some 62, _, _, _, _, _⟩) (v := ?_) rfl (by kernel_rfl) (by kernel_rfl) (by kernel_rfl) (fun _ _ _ h => h) (Or.inl ⟨by rfl, ?_⟩) (by assumption) ?_
  rotate_left
  · (intro w hSw; (try dsimp only at hSw); go_simp; (try (with_reducible rfl)))
  (try simp only [Act.put, List.setIfInBounds_toArray, List.set_cons_zero, List.set_cons_succ])
  refine wpAnyH_take (i := 22) (oi := ⟨some 63, _, _, _, _, _⟩) (v := ?_) rfl (by kernel_rfl) (by kernel_rfl) (by kernel_rfl) (fun _ _ _ h => h) (Or.inl ⟨by rfl, ?_⟩) (by assumption) ?_
  rotate_left
  · (intro w hSw; (try dsimp only at hSw); go_simp; (try (with_reducible rfl)))
  (try simp only [Act.put, List.setIfInBounds_toArray, List.set_cons_zero, List.set_cons_succ])
  refine wpAnyH_take (i := 23) (oi := ⟨some 64, _, _, _, _, _⟩) (v := ?_) rfl (by kernel_rfl) (by kernel_rfl) (by kernel_rfl) (fun _ _ _ h => h) (Or.inl ⟨by rfl, ?_⟩) (by assumption) ?_
  rotate_left
  · (intro w hSw; (try dsimp only at hSw); go_simp; (try (with_reducible rfl)))
  (try simp only [Act.put, List.setIfInBounds_toArray, List.set_cons_zero, List.set_cons_succ])
  refine wpAnyH_take (i := 24) (oi := ⟨some 65, _, _, _, _, _⟩) (v := ?_) rfl (by kernel_rfl) (by kernel_rfl) (by kernel_rfl) (fun _ _ _ h => h) (Or.inl ⟨by rfl, ?_⟩) (by assumption) ?_
  rotate_left
  · (intro w hSw; (try dsimp only at hSw); go_simp; (try (with_reducible rfl)))
  (try simp only [Act.put, List.setIfInBounds_toArray, List.set_cons_zero, List.set_cons_succ])
  refine wpAnyH_take (i := 25) (oi := ⟨some 66, _, _, _, _, _⟩) (v := ?_) rfl (by kernel_rfl) (by kernel_rfl) (by kernel_rfl) (fun _ _ _ h => h) (Or.inl ⟨by rfl, ?_⟩) (by assumption) ?_
  rotate_left
  · (intro w hSw; (try dsimp only at hSw); go_simp; (try (with_reducible rfl)))
  (try simp only [Act.put, List.setIfInBounds_toArray, List.set_cons_zero, List.set_cons_succ])
  refine wpAnyH_take (i := 26) (oi := ⟨some 67, _, _, _, _, _⟩) (v := ?_) rfl (by kernel_rfl) (by kernel_rfl) (by kernel_rfl) (fun _ _ _ h => h) (Or.inl ⟨by rfl, ?_⟩) (by assumption) ?_
  rotate_left
  · (intro w hSw; (try dsimp only at hSw); go_simp; (try (with_reducible rfl)))
  (try simp only [Act.put, List.setIfInBounds_toArray, List.set_cons_zero, List.set_cons_succ])
  refine wpAnyH_take (i := 27) (oi := ⟨some 68, _, _, _, _, _⟩) (v := ?_) rfl (by kernel_rfl) (by kernel_rfl) (by kernel_rfl) (fun _ _ _ h => h) (Or.inl ⟨by rfl, ?_⟩) (by assumption) ?_
  rotate_left
  · (intro w hSw; (try dsimp only at hSw); go_simp; (try (with_reducible rfl)))
  (try simp only [Act.put, List.setIfInBounds_toArray, List.set_cons_zero, List.set_cons_succ])
  refine wpAnyH_take (i := 28) (oi := ⟨some 69, _, _, _, _, _⟩) (v := ?_) rfl (by kernel_rfl) (by kernel_rfl) (by kernel_rfl) (fun _ _ _ h => h) (Or.inl ⟨by rfl, ?_⟩) (by assumption) ?_
  rotate_left
  · (intro w hSw; (try dsimp only at hSw); go_simp; (try (with_reducible rfl)))
  (try simp only [Act.put, List.setIfInBounds_toArray, List.set_cons_zero, List.set_cons_succ])
  refine wpAnyH_take (i := 29) (oi := ⟨some 70, _, _, _, _, _⟩) (v := ?_) rfl (by kernel_rfl) (by kernel_rfl) (by kernel_rfl) (fun _ _ _ h => h) (Or.inl ⟨by rfl, ?_⟩) (by assumption) ?_
  rotate_left
  · (intro w hSw; (try dsimp only at hSw); go_simp; (try (with_reducible rfl)))
  (try simp only [Act.put, List.setIfInBounds_toArray, List.set_cons_zero, List.set_cons_succ])
  refine wpAnyH_take (i := 30) (oi := ⟨some 71, _, _, _, _, _⟩) (v := ?_) rfl (by kernel_rfl) (by kernel_rfl) (by kernel_rfl) (fun _ _ _ h => h) (Or.inl ⟨by rfl, ?_⟩) (by assumption) ?_
  rotate_left
  · (intro w hSw; (try dsimp only at hSw); go_simp; (try (with_reducible rfl)))
  (try simp only [Act.put, List.setIfInBounds_toArray, List.set_cons_zero, List.set_cons_succ])
  refine wpAnyH_ready (rs := [31]) (by kernel_rfl) (by simp) (AllReadyH.cons (o := ⟨some 72, _, _, _, _, _⟩) rfl (fun K hK => ?_) AllReadyH.nil)
  rw [if_pos (by rfl)]
  go_simp
  go_at_call 14
  refine Calls.mono (HAW.out _ B3.out) ?_
  rintro e u4 ⟨he, hb4⟩
  subst he
  clear HAW
  clear c0 c1 c2 c3 c4 c5 c6 m0 m1 m2 m3 m4 m5 m6 n0 n1 n2 n3 n4 n5 n6
  obtain ⟨c0, c1, c2, c3, c4, c5, c6⟩ := (HR1.out.up hb4).r7
  simp only [Nat.zero_add] at c0 c1 c2 c3 c4 c5 c6
  obtain ⟨m0, m1, m2, m3, m4, m5, m6⟩ := (HC.out.up hb4).r7
  simp only [Nat.zero_add] at m0 m1 m2 m3 m4 m5 m6
  obtain ⟨n0, n1, n2, n3, n4, n5, n6⟩ := (HD.out.up hb4).r7
  simp only [Nat.zero_add] at n0 n1 n2 n3 n4 n5 n6
  have B4 := Lib.hid hb4
  clear hb4
  (try go_wp2_with fail)
  refine hK.out _ _ (by (try dsimp only); refine ⟨?_, ?_, ?_, ?_, ?_, ?_, ?_, ?_, ?_, ?_, ?_, ?_, ?_, ?_, ?_, ?_, ?_, ?_, ?_, ?_, ?_⟩ <;> first | with_reducible assumption | go_keep) (fun hHeld => ?_)
  clear hK K
  (try simp only [Act.put, List.setIfInBounds_toArray, List.set_cons_zero, List.set_cons_succ])
  refine wpAnyH_take (i := 32) (oi := ⟨some 73, _, _, _, _, _⟩) (v := ?_) rfl (by kernel_rfl) (by kernel_rfl) (by kernel_rfl) (fun _ _ _ h => h) (Or.inl ⟨by rfl, ?_⟩) (by assumption) ?_
  rotate_left
  · (intro w hSw; (try dsimp only at hSw); go_simp; (try (with_reducible rfl)))
  (try simp only [Act.put, List.setIfInBounds_toArray, List.set_cons_zero, List.set_cons_succ])
  refine wpAnyH_take (i := 33) (oi := ⟨some 6, _, _, _, _, _⟩) (v := ?_) rfl (by kernel_rfl) (by kernel_rfl) (by kernel_rfl) (fun _ _ _ h => h) (Or.inl ⟨by rfl, ?_⟩) (by assumption) ?_
  rotate_left
  · (intro w hSw; (try dsimp only at hSw); go_simp; (try (with_reducible rfl)))
  (try simp only [Act.put, List.setIfInBounds_toArray, List.set_cons_zero, List.set_cons_succ])
  refine wpAnyH_done (by kernel_rfl) ?_ _
  refine NoPanic.normal ?_
  go_wp2_with fail
  go_ret
  exact ⟨rfl, HB.out.trans (B4.out.mono hz)⟩
end Go.Proofs.YtokkcmadgcdpiaaDoor
