import Derived.Test.YtlmcafcebidliaaDoorTAE
namespace Go.Proofs.YtlmcafcebidliaaDoor.Tp
open Go.RowKit

/-! The law on Check. -/
set_option maxRecDepth 100000 in
set_option maxHeartbeats 1000000 in
theorem lawChecks_any (T : Tm) (w : World) (hp : PrL w) (hl : T.ps.length = 12) (hs : T.nm.size ≤ maxLen) : Calls Tryd.prog 3 #[.agg (tmV T).toArray] w fun e w' => e = .returned (.bool true) ∧ Below w.heap.size w w' := by
  obtain ⟨W, hW⟩ : ∃ W, W = w.alloc (.cells (tmV T).toArray 26) := ⟨_, rfl⟩
  have hr : RowV W w.heap.size 26 (tmV T) := by rw [hW]; exact RowV.of_alloc w 26 (tmV T)
  have hb : Below w.heap.size w W := by rw [hW]; exact belB w _
  have HS1 := Lib.hid (fun w' (h : Below W.heap.size W w') => (hr.up h).all)
  have HI2 := Lib.hid (szT hl)
  have HCK := Lib.hid (fun W => Check_any T W hl hs)
  have HRC := Lib.hid (fun W => rCheck_any T W hl hs)
  have HPW := Lib.hid (hp.below hb)
  have HB := Lib.hid hb
  have HW := Lib.hid hW
  clear hr hb hW hl hs hp
  generalize chkT T = ck at *
  generalize tmV T = L at *
  go_enter Tryd.func3, Tryd.ntmps3
  go_wp2_with fail
  rw [← HW.out]
  refine wp_region_noPanic ?_
  have hb0 : Below W.heap.size W W.drew := (Below.refl _ _).drew
  refine wp_region_held_drew (S := fun w' => Below W.heap.size W w') (by kernel_rfl) hb0 (fun _ => ?_)
  refine wpAnyH_take (i := 0) (oi := ⟨some 3, _, _, _, _, _⟩) (v := _) rfl (by kernel_rfl) (by kernel_rfl) (by kernel_rfl) (fun _ _ _ h => h) (yieldsIf_load_mid (by rfl) 26 _ rfl w.heap.size 0 rfl L _ HS1.out Tryd.underlying26 rfl HI2.out) hb0 ?_
  (try simp only [Act.put, List.setIfInBounds_toArray, List.set_cons_zero, List.set_cons_succ])
  refine wpAnyH_take (i := 2) (oi := ⟨some 5, _, _, _, _, _⟩) (v := _) rfl (by kernel_rfl) (by kernel_rfl) (by kernel_rfl) (fun _ _ _ h => h) (yieldsIf_load_mid (by rfl) 26 _ rfl w.heap.size 0 rfl L _ HS1.out Tryd.underlying26 rfl HI2.out) hb0 ?_
  (try simp only [Act.put, List.setIfInBounds_toArray, List.set_cons_zero, List.set_cons_succ])
  refine wpAnyH_ready (rs := [1]) (by kernel_rfl) (by simp) (AllReadyH.cons (o := ⟨some 4, _, _, _, _, _⟩) rfl (fun K hK => ?_) AllReadyH.nil)
  rw [if_pos (by rfl)]
  go_simp
  refine (HCK.out _).mono ?_
  rintro e u1 ⟨he, hc1⟩
  subst he
  have hb1 := hb0.trans (hc1.mono hb0.size)
  clear hc1
  (try go_wp2_with fail)
  refine hK.out _ _ hb1 (fun _ => ?_)
  clear hK K
  (try simp only [Act.put, List.setIfInBounds_toArray, List.set_cons_zero, List.set_cons_succ])
  refine wpAnyH_ready (rs := [3]) (by kernel_rfl) (by simp) (AllReadyH.cons (o := ⟨some 6, _, _, _, _, _⟩) rfl (fun K hK => ?_) AllReadyH.nil)
  rw [if_pos (by rfl)]
  go_simp
  refine (HRC.out _).mono ?_
  rintro e u2 ⟨he, hc2⟩
  subst he
  have hb2 := hb1.trans (hc2.mono hb1.size)
  clear hc2
  (try go_wp2_with fail)
  refine hK.out _ _ hb2 (fun _ => ?_)
  clear hK K
  (try simp only [Act.put, List.setIfInBounds_toArray, List.set_cons_zero, List.set_cons_succ])
  refine wpAnyH_take (i := 4) (oi := ⟨some 7, _, _, _, _, _⟩) (v := ?_) rfl (by kernel_rfl) (by kernel_rfl) (by kernel_rfl) (fun _ _ _ h => h) (Or.inl ⟨by rfl, ?_⟩) hb2 ?_
  rotate_left
  · (intro w hSw; go_simp; (try (with_reducible rfl)))
  (try simp only [Act.put, List.setIfInBounds_toArray, List.set_cons_zero, List.set_cons_succ])
  refine wpAnyH_take (i := 5) (oi := ⟨some 8, _, _, _, _, _⟩) (v := ?_) rfl (by kernel_rfl) (by kernel_rfl) (by kernel_rfl) (fun _ _ _ h => h) (Or.inl ⟨by rfl, ?_⟩) hb2 ?_
  rotate_left
  · (intro w hSw; go_simp; (try (with_reducible rfl)))
  (try simp only [Act.put, List.setIfInBounds_toArray, List.set_cons_zero, List.set_cons_succ])
  refine wpAnyH_ready (rs := [6]) (by kernel_rfl) (by simp) (AllReadyH.cons (o := ⟨some 9, _, _, _, _, _⟩) rfl (fun K hK => ?_) AllReadyH.nil)
  rw [if_pos (by rfl)]
  go_simp
  refine (awake_any _ (HPW.out.below hb2)).mono ?_
  rintro e u3 ⟨he, hc3⟩
  subst he
  have hb3 := hb2.trans (hc3.mono hb2.size)
  clear hc3
  (try go_wp2_with fail)
  refine hK.out _ _ hb3 (fun _ => ?_)
  clear hK K
  (try simp only [Act.put, List.setIfInBounds_toArray, List.set_cons_zero, List.set_cons_succ])
  refine wpAnyH_take (i := 7) (oi := ⟨some 10, _, _, _, _, _⟩) (v := ?_) rfl (by kernel_rfl) (by kernel_rfl) (by kernel_rfl) (fun _ _ _ h => h) (Or.inl ⟨by rfl, ?_⟩) hb3 ?_
  rotate_left
  · (intro w hSw; go_simp; (try (with_reducible rfl)))
  (try simp only [Act.put, List.setIfInBounds_toArray, List.set_cons_zero, List.set_cons_succ])
  refine wpAnyH_take (i := 8) (oi := ⟨some 2, _, _, _, _, _⟩) (v := ?_) rfl (by kernel_rfl) (by kernel_rfl) (by kernel_rfl) (fun _ _ _ h => h) (Or.inl ⟨by rfl, ?_⟩) hb3 ?_
  rotate_left
  · (intro w hSw; go_simp; (try (with_reducible rfl)))
  (try simp only [Act.put, List.setIfInBounds_toArray, List.set_cons_zero, List.set_cons_succ])
  refine wpAnyH_done (by kernel_rfl) ?_ _
  refine NoPanic.normal ?_
  go_wp2_with fail
  go_ret
  exact ⟨rfl, HB.out.trans (hb3.mono HB.out.size)⟩
end Go.Proofs.YtlmcafcebidliaaDoor.Tp
