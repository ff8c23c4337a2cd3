import Derived.Test.YtkoghdgfllichaaDoorPA11
namespace Go.Proofs.YtkoghdgfllichaaDoor.Pc
open Go.RowKit Tp

/-! frequency. -/
set_option maxRecDepth 100000 in
set_option maxHeartbeats 4000000 in
/-- Of whatever atT0 returns. -/
theorem frequency_ok (a : Nat) (t0 t : Int) (g n : Nat) (L1 : List (Nat × Int)) (d1 : Int) (w : World)
    (hat : ∀ W, Below w.heap.size w W → Calls Tryd.prog 103 #[.agg (TunV (a : Int) t0 t g).toArray, .int .i64 (n : Int)] W fun e w' => (∃ V, e = .returned V ∧ RootV w' W.heap.size V L1 d1) ∧ Below W.heap.size W w')
    (hL1 : L1.length ≤ 100) (hB1 : Bd 1000000000 L1) (hd1 : 1 ≤ d1) (hd2 : d1 ≤ 1000) (h1 : -20000 ≤ t0) (h2 : t0 ≤ 50000) (h3 : -20000 ≤ t) (h4 : t ≤ 50000) :
    Calls Tryd.prog 60 #[.agg (TunV (a : Int) t0 t g).toArray, .int .i64 (n : Int)] w fun e w' => (∃ V, e = .returned V ∧ RootV w' w.heap.size V (scL 2 L1 ++ scL d1 (fastL t0 t)) (d1 * 2)) ∧ Below w.heap.size w w' := by
  obtain ⟨W, hW⟩ : ∃ W, W = (w.alloc (.cells (TunV (a : Int) t0 t g).toArray 100)).alloc (.cells #[.slice none 0 0, .int .i64 0] 102) := ⟨_, rfl⟩
  have b0 : RowV W w.heap.size 100 (TunV (a : Int) t0 t g) := by rw [hW]; exact (RowV.of_alloc w 100 (TunV (a : Int) t0 t g)).alloc _
  have b1 : RowV W (w.heap.size + 1) 102 [.slice none 0 0, .int .i64 0] := by
    have h := RowV.of_alloc (w.alloc (.cells (TunV (a : Int) t0 t g).toArray 100)) 102 [.slice none 0 0, .int .i64 0]
    rw [World.size_alloc] at h
    rw [hW]; exact h
  have bw0 : Below w.heap.size w W := by rw [hW]; exact (belB w _).alloc (by simp) _
  have hWs := b1.lt
  have RT := Lib.hid b0
  have RR := Lib.hid b1
  have RB := Lib.hid bw0
  have HAT := Lib.hid (fun W' (h : Below W.heap.size W W') => hat W' (bw0.trans (h.mono bw0.size)))
  have HFA := Lib.hid (fun W' => faster_any t0 t W' h1 h2 h3 h4)
  have HBF : Hid (Bd 1000000000 (fastL t0 t)) := Lib.hid (fun x hx => by have := fastL_ok h1 h2 h3 h4 x hx; omega)
  clear b0 b1 bw0 hat h1 h2 h3 h4
  go_enter Tryd.func60, Tryd.ntmps60
  go_wp2_with fail
  (try rw [← hW])
  clear hW
  refine wp_region_noPanic ?_
  have hb0 : Below W.heap.size W W.drew := (Below.refl _ _).drew
  refine wp_region_held_drew (S := fun w' => RowV w' w.heap.size 100 (TunV (a : Int) t0 t g) ∧ True) (by kernel_rfl) ⟨RT.out.up hb0, trivial⟩ (fun _ => ?_)
  refine wpAnyH_take (i := 0) (oi := ⟨some 5, _, _, _, _, _⟩) (v := .agg (TunV (a : Int) t0 t g).toArray) rfl (by kernel_rfl) (by kernel_rfl) (by kernel_rfl) (fun _ _ _ h => h) (yieldsIf_load_mid (by rfl) 100 _ rfl w.heap.size 0 rfl (TunV (a : Int) t0 t g) _ (fun w' h => RowV.all h.1) Tryd.underlying100 rfl (szTun _ rfl)) ⟨RT.out.up hb0, trivial⟩ ?_
  (try simp only [Act.put, List.setIfInBounds_toArray, List.set_cons_zero, List.set_cons_succ])
  refine wpAnyH_take (i := 1) (oi := ⟨some 6, _, _, _, _, _⟩) (v := .int .i64 (n : Int)) rfl (by kernel_rfl) (by kernel_rfl) (by kernel_rfl) (fun _ _ _ h => h) (Or.inl ⟨by rfl, fun w' hS => by go_simp; (try (with_reducible rfl))⟩) ⟨RT.out.up hb0, trivial⟩ ?_
  (try simp only [Act.put, List.setIfInBounds_toArray, List.set_cons_zero, List.set_cons_succ])
  refine wpAnyH_take (i := 3) (oi := ⟨some 8, _, _, _, _, _⟩) (v := .pointer (some ⟨w.heap.size, 0, none⟩)) rfl (by kernel_rfl) (by kernel_rfl) (by kernel_rfl) (fun _ _ _ h => h) (Or.inl ⟨by rfl, fun w' hS => by go_simp; (try (with_reducible rfl))⟩) ⟨RT.out.up hb0, trivial⟩ ?_
  (try simp only [Act.put, List.setIfInBounds_toArray, List.set_cons_zero, List.set_cons_succ])
  refine wpAnyH_take (i := 4) (oi := ⟨some 9, _, _, _, _, _⟩) (v := .pointer (some ⟨w.heap.size, 1, none⟩)) rfl (by kernel_rfl) (by kernel_rfl) (by kernel_rfl) (fun _ _ _ h => h) (Or.inl ⟨by rfl, fun w' hS => by go_simp; (try (with_reducible rfl))⟩) ⟨RT.out.up hb0, trivial⟩ ?_
  (try simp only [Act.put, List.setIfInBounds_toArray, List.set_cons_zero, List.set_cons_succ])
  refine wpAnyH_take (i := 5) (oi := ⟨some 10, _, _, _, _, _⟩) (v := .int .i64 t0) rfl (by kernel_rfl) (by kernel_rfl) (by kernel_rfl) (fun _ _ _ h => h) (Or.inl ⟨by rfl, fun w' hS => by have e0 : w'.cell? ⟨w.heap.size, 1, none⟩ = some (.int .i64 t0) := hS.1.cell (i := 1) rfl; go_simp; (try (with_reducible rfl))⟩) ⟨RT.out.up hb0, trivial⟩ ?_
  (try simp only [Act.put, List.setIfInBounds_toArray, List.set_cons_zero, List.set_cons_succ])
  refine wpAnyH_take (i := 6) (oi := ⟨some 11, _, _, _, _, _⟩) (v := .pointer (some ⟨w.heap.size, 0, none⟩)) rfl (by kernel_rfl) (by kernel_rfl) (by kernel_rfl) (fun _ _ _ h => h) (Or.inl ⟨by rfl, fun w' hS => by go_simp; (try (with_reducible rfl))⟩) ⟨RT.out.up hb0, trivial⟩ ?_
  (try simp only [Act.put, List.setIfInBounds_toArray, List.set_cons_zero, List.set_cons_succ])
  refine wpAnyH_take (i := 7) (oi := ⟨some 12, _, _, _, _, _⟩) (v := .pointer (some ⟨w.heap.size, 2, none⟩)) rfl (by kernel_rfl) (by kernel_rfl) (by kernel_rfl) (fun _ _ _ h => h) (Or.inl ⟨by rfl, fun w' hS => by go_simp; (try (with_reducible rfl))⟩) ⟨RT.out.up hb0, trivial⟩ ?_
  (try simp only [Act.put, List.setIfInBounds_toArray, List.set_cons_zero, List.set_cons_succ])
  refine wpAnyH_take (i := 8) (oi := ⟨some 13, _, _, _, _, _⟩) (v := .int .i64 t) rfl (by kernel_rfl) (by kernel_rfl) (by kernel_rfl) (fun _ _ _ h => h) (Or.inl ⟨by rfl, fun w' hS => by have e0 : w'.cell? ⟨w.heap.size, 2, none⟩ = some (.int .i64 t) := hS.1.cell (i := 2) rfl; go_simp; (try (with_reducible rfl))⟩) ⟨RT.out.up hb0, trivial⟩ ?_
  (try simp only [Act.put, List.setIfInBounds_toArray, List.set_cons_zero, List.set_cons_succ])
  refine wpAnyH_ready (rs := [2]) (by kernel_rfl) (by simp) (AllReadyH.cons (o := ⟨some 7, _, _, _, _, _⟩) rfl (fun K hK => ?_) AllReadyH.nil)
  rw [if_pos (by rfl)]
  go_simp
  refine (HAT.out _ (hb0)).mono ?_
  rintro e u1 ⟨⟨V, he, hroot⟩, hc1⟩
  subst he
  obtain ⟨v1, rfl, hrow1⟩ := hroot
  have hb1 := hb0.trans (hc1.mono hb0.size)
  (try go_wp2_with fail)
  refine hK.out _ _ ⟨RT.out.up hb1, trivial⟩ (fun _ => ?_)
  clear hK K
  (try simp only [Act.put, List.setIfInBounds_toArray, List.set_cons_zero, List.set_cons_succ])
  obtain ⟨bA, capA, rfl, hcA, hmA, hfA⟩ := hrow1.form
  have HR1 := Lib.hid hrow1
  clear hrow1 hfA
  refine wpAnyH_ready (rs := [9]) (by kernel_rfl) (by simp) (AllReadyH.cons (o := ⟨some 14, _, _, _, _, _⟩) rfl (fun K hK => ?_) AllReadyH.nil)
  rw [if_pos (by rfl)]
  go_simp
  refine (HFA.out _).mono ?_
  rintro e u2 ⟨⟨V, he, hroot⟩, hc2⟩
  subst he
  obtain ⟨v2, rfl, hrow2⟩ := hroot
  have hb2 := hb1.trans (hc2.mono hb1.size)
  have HR1b := Lib.hid (HR1.out.up hc2)
  (try go_wp2_with fail)
  refine hK.out _ _ ⟨RT.out.up hb2, trivial⟩ (fun _ => ?_)
  clear hK K
  (try simp only [Act.put, List.setIfInBounds_toArray, List.set_cons_zero, List.set_cons_succ])
  obtain ⟨eA, capE, rfl, hcE, hmE, hfE⟩ := hrow2.form
  have HR2 := Lib.hid hrow2
  clear hrow2 hfE
  refine wpAnyH_ready (rs := [10]) (by kernel_rfl) (by simp) (AllReadyH.cons (o := ⟨some 15, _, _, _, _, _⟩) rfl (fun K hK => ?_) AllReadyH.nil)
  rw [if_pos (by rfl)]
  go_simp
  (try go_wp2_with fail)
  have hb3 := hb2.alloc hb2.size (.cells #[.slice bA L1.length capA, .int .i64 d1, .slice eA (fastL t0 t).length capE, .int .i64 2] 102)
  refine hK.out _ _ ⟨RT.out.up hb3, trivial⟩ (fun _ => ?_)
  clear hK K
  (try simp only [Act.put, List.setIfInBounds_toArray, List.set_cons_zero, List.set_cons_succ])
  refine wpAnyH_ready (rs := [11]) (by kernel_rfl) (by simp) (AllReadyH.cons (o := ⟨some 16, _, _, _, _, _⟩) rfl (fun K hK => ?_) AllReadyH.nil)
  rw [if_pos (by rfl)]
  go_simp
  have hg := heap_alloc_new u2 (.cells #[.slice bA L1.length capA, .int .i64 d1, .slice eA (fastL t0 t).length capE, .int .i64 2] 102)
  have hbu := belA u2 (.cells #[.slice bA L1.length capA, .int .i64 d1, .slice eA (fastL t0 t).length capE, .int .i64 2] 102)
  refine (product2 u2.heap.size 2 bA capA L1 d1 eA capE (fastL t0 t) 2 _ (by simp) (Go.Joins.cell_of_block hg 0) (Go.Joins.cell_of_block hg 1) (Go.Joins.cell_of_block hg 2) (Go.Joins.cell_of_block hg 3) (HR1b.out.up hbu).tmc (HR2.out.up hbu).tmc hL1 (by simp [fastL]) hB1 HBF.out hd1 hd2 (by omega) (by omega)).mono ?_
  rintro e u3 ⟨⟨V, he, hroot⟩, hc3⟩
  subst he
  obtain ⟨v3, rfl, hrow3⟩ := hroot
  have hb4 := hb3.trans (hc3.mono hb3.size)
  (try go_wp2_with fail)
  refine hK.out _ _ ⟨RT.out.up hb4, trivial⟩ (fun _ => ?_)
  clear hK K
  (try simp only [Act.put, List.setIfInBounds_toArray, List.set_cons_zero, List.set_cons_succ])
  obtain ⟨zA, zcap, rfl, hzc, hzm, hzf⟩ := hrow3.form
  have HR3 := Lib.hid hrow3
  have r3 := RR.out.up hb4
  have c20 := RowV.c0 r3
  have c21 := RowV.c1 r3
  have z20 := RowV.z (i := 0) r3
  have z21 := RowV.z (i := 1) r3
  have bw := RB.out.trans (hb4.mono RB.out.size)
  have hs2 := hb2.size
  clear hrow3 r3
  refine wpAnyH_ready (rs := [12]) (by kernel_rfl) (by simp) (AllReadyH.cons (o := ⟨none, _, _, _, _, _⟩) rfl (fun K hK => ?_) AllReadyH.nil)
  rw [if_pos (by rfl)]
  go_simp
  refine hK.out _ _ ⟨RowV.far (RowV.far (RT.out.up hb4) (by omega)) (by omega), trivial⟩ (fun _ => ?_)
  clear hK K
  (try simp only [Act.put, List.setIfInBounds_toArray, List.set_cons_zero, List.set_cons_succ])
  refine wpAnyH_done (by kernel_rfl) ?_ _
  refine NoPanic.normal ?_
  go_wp2
  refine bodyPost_ret (v := .agg #[.slice zA (scL 2 L1 ++ scL d1 (fastL t0 t)).length zcap, .int .i64 (d1 * 2)]) (results_one rfl rfl (load_root2 ?_ ?_)) rfl ⟨⟨_, rfl, _, rfl, RowT.low (B := (u2.alloc (.cells #[.slice bA L1.length capA, .int .i64 d1, .slice eA (fastL t0 t).length capE, .int .i64 2] 102)).heap.size) (HR3.out.keep fun k hk => ?_) ?_⟩, (bw.setCell (by show w.heap.size ≤ w.heap.size + 1; omega) _).setCell (by show w.heap.size ≤ w.heap.size + 1; omega) _⟩
  · rw [World.cell?_setCell_other _ _ _ _ (by simp), World.cell?_setCell_same _ _ _ c20]
    simp only [List.length_append]
  · exact World.cell?_setCell_same _ _ _ ((World.cell?_setCell_other _ _ _ _ (by simp)).trans c21)
  · have hk2 : k ≠ w.heap.size + 1 := by
      rcases hzf with ⟨rfl, -, -⟩ | ⟨g2, rfl, hg2, -, -⟩
      · cases hk
      · have e2 : g2 = k := Option.some.inj hk
        rw [World.size_alloc] at hg2
        omega
    exact (setCell_heap hk2).trans (setCell_heap hk2)
  · rw [World.size_alloc]
    omega
end Go.Proofs.YtkoghdgfllichaaDoor.Pc
namespace Go.Proofs.YtkoghdgfllichaaDoor.Pc
open Go.RowKit Tp

/-! wave. -/
set_option maxRecDepth 100000 in
set_option maxHeartbeats 4000000 in
/-- Of whatever atT0 returns. -/
theorem wave_ok (a : Nat) (t0 t : Int) (g n : Nat) (L1 : List (Nat × Int)) (d1 : Int) (w : World)
    (hat : ∀ W, Below w.heap.size w W → Calls Tryd.prog 103 #[.agg (TunV (a : Int) t0 t g).toArray, .int .i64 (n : Int)] W fun e w' => (∃ V, e = .returned V ∧ RootV w' W.heap.size V L1 d1) ∧ Below W.heap.size W w')
    (hL1 : L1.length ≤ 100) (hB1 : Bd 1000000000 L1) (hd1 : 1 ≤ d1) (hd2 : d1 ≤ 1000) (h1 : -20000 ≤ t0) (h2 : t0 ≤ 50000) :
    Calls Tryd.prog 61 #[.agg (TunV (a : Int) t0 t g).toArray, .int .i64 (n : Int)] w fun e w' => (∃ V, e = .returned V ∧ RootV w' w.heap.size V (scL d1 (fastL 0 t0) ++ scL 2 (negL L1)) (2 * d1)) ∧ Below w.heap.size w w' := by
  obtain ⟨W, hW⟩ : ∃ W, W = (w.alloc (.cells (TunV (a : Int) t0 t g).toArray 100)).alloc (.cells #[.slice none 0 0, .int .i64 0] 102) := ⟨_, rfl⟩
  have b0 : RowV W w.heap.size 100 (TunV (a : Int) t0 t g) := by rw [hW]; exact (RowV.of_alloc w 100 (TunV (a : Int) t0 t g)).alloc _
  have b1 : RowV W (w.heap.size + 1) 102 [.slice none 0 0, .int .i64 0] := by
    have h := RowV.of_alloc (w.alloc (.cells (TunV (a : Int) t0 t g).toArray 100)) 102 [.slice none 0 0, .int .i64 0]
    rw [World.size_alloc] at h
    rw [hW]; exact h
  have bw0 : Below w.heap.size w W := by rw [hW]; exact (belB w _).alloc (by simp) _
  have hWs := b1.lt
  have RT := Lib.hid b0
  have RR := Lib.hid b1
  have RB := Lib.hid bw0
  have HAT := Lib.hid (fun W' (h : Below W.heap.size W W') => hat W' (bw0.trans (h.mono bw0.size)))
  have HFA := Lib.hid (fun W' => faster_any 0 t0 W' (by omega) (by omega) h1 h2)
  have HBF : Hid (Bd 1000000000 (fastL 0 t0)) := Lib.hid (fun x hx => by have := fastL_ok (show (-20000 : Int) ≤ 0 by omega) (by omega) h1 h2 x hx; omega)
  clear b0 b1 bw0 hat h1 h2
  go_enter Tryd.func61, Tryd.ntmps61
  go_wp2_with fail
  (try rw [← hW])
  clear hW
  refine wp_region_noPanic ?_
  have hb0 : Below W.heap.size W W.drew := (Below.refl _ _).drew
  refine wp_region_held_drew (S := fun w' => RowV w' w.heap.size 100 (TunV (a : Int) t0 t g) ∧ True) (by kernel_rfl) ⟨RT.out.up hb0, trivial⟩ (fun _ => ?_)
  refine wpAnyH_take (i := 0) (oi := ⟨some 5, _, _, _, _, _⟩) (v := .pointer (some ⟨w.heap.size, 0, none⟩)) rfl (by kernel_rfl) (by kernel_rfl) (by kernel_rfl) (fun _ _ _ h => h) (Or.inl ⟨by rfl, fun w' hS => by go_simp; (try (with_reducible rfl))⟩) ⟨RT.out.up hb0, trivial⟩ ?_
  (try simp only [Act.put, List.setIfInBounds_toArray, List.set_cons_zero, List.set_cons_succ])
  refine wpAnyH_take (i := 1) (oi := ⟨some 6, _, _, _, _, _⟩) (v := .pointer (some ⟨w.heap.size, 1, none⟩)) rfl (by kernel_rfl) (by kernel_rfl) (by kernel_rfl) (fun _ _ _ h => h) (Or.inl ⟨by rfl, fun w' hS => by go_simp; (try (with_reducible rfl))⟩) ⟨RT.out.up hb0, trivial⟩ ?_
  (try simp only [Act.put, List.setIfInBounds_toArray, List.set_cons_zero, List.set_cons_succ])
  refine wpAnyH_take (i := 2) (oi := ⟨some 7, _, _, _, _, _⟩) (v := .int .i64 t0) rfl (by kernel_rfl) (by kernel_rfl) (by kernel_rfl) (fun _ _ _ h => h) (Or.inl ⟨by rfl, fun w' hS => by have e0 : w'.cell? ⟨w.heap.size, 1, none⟩ = some (.int .i64 t0) := hS.1.cell (i := 1) rfl; go_simp; (try (with_reducible rfl))⟩) ⟨RT.out.up hb0, trivial⟩ ?_
  (try simp only [Act.put, List.setIfInBounds_toArray, List.set_cons_zero, List.set_cons_succ])
  refine wpAnyH_take (i := 4) (oi := ⟨some 9, _, _, _, _, _⟩) (v := .agg (TunV (a : Int) t0 t g).toArray) rfl (by kernel_rfl) (by kernel_rfl) (by kernel_rfl) (fun _ _ _ h => h) (yieldsIf_load_mid (by rfl) 100 _ rfl w.heap.size 0 rfl (TunV (a : Int) t0 t g) _ (fun w' h => RowV.all h.1) Tryd.underlying100 rfl (szTun _ rfl)) ⟨RT.out.up hb0, trivial⟩ ?_
  (try simp only [Act.put, List.setIfInBounds_toArray, List.set_cons_zero, List.set_cons_succ])
  refine wpAnyH_take (i := 5) (oi := ⟨some 10, _, _, _, _, _⟩) (v := .int .i64 (n : Int)) rfl (by kernel_rfl) (by kernel_rfl) (by kernel_rfl) (fun _ _ _ h => h) (Or.inl ⟨by rfl, fun w' hS => by go_simp; (try (with_reducible rfl))⟩) ⟨RT.out.up hb0, trivial⟩ ?_
  (try simp only [Act.put, List.setIfInBounds_toArray, List.set_cons_zero, List.set_cons_succ])
  refine wpAnyH_ready (rs := [3]) (by kernel_rfl) (by simp) (AllReadyH.cons (o := ⟨some 8, _, _, _, _, _⟩) rfl (fun K hK => ?_) AllReadyH.nil)
  rw [if_pos (by rfl)]
  go_simp
  refine (HFA.out _).mono ?_
  rintro e u1 ⟨⟨V, he, hroot⟩, hc1⟩
  subst he
  obtain ⟨v1, rfl, hrow1⟩ := hroot
  have hb1 := hb0.trans (hc1.mono hb0.size)
  (try go_wp2_with fail)
  refine hK.out _ _ ⟨RT.out.up hb1, trivial⟩ (fun _ => ?_)
  clear hK K
  (try simp only [Act.put, List.setIfInBounds_toArray, List.set_cons_zero, List.set_cons_succ])
  obtain ⟨bA, capA, rfl, hcA, hmA, hfA⟩ := hrow1.form
  have HR1 := Lib.hid hrow1
  clear hrow1 hfA
  refine wpAnyH_ready (rs := [6]) (by kernel_rfl) (by simp) (AllReadyH.cons (o := ⟨some 11, _, _, _, _, _⟩) rfl (fun K hK => ?_) AllReadyH.nil)
  rw [if_pos (by rfl)]
  go_simp
  refine (HAT.out _ (hb1)).mono ?_
  rintro e u2 ⟨⟨V, he, hroot⟩, hc2⟩
  subst he
  obtain ⟨v2, rfl, hrow2⟩ := hroot
  have hb2 := hb1.trans (hc2.mono hb1.size)
  have HR1b := Lib.hid (HR1.out.up hc2)
  (try go_wp2_with fail)
  refine hK.out _ _ ⟨RT.out.up hb2, trivial⟩ (fun _ => ?_)
  clear hK K
  (try simp only [Act.put, List.setIfInBounds_toArray, List.set_cons_zero, List.set_cons_succ])
  obtain ⟨eA, capE, rfl, hcE, hmE, hfE⟩ := hrow2.form
  have HR2 := Lib.hid hrow2
  clear hrow2 hfE
  refine wpAnyH_ready (rs := [7]) (by kernel_rfl) (by simp) (AllReadyH.cons (o := ⟨some 12, _, _, _, _, _⟩) rfl (fun K hK => ?_) AllReadyH.nil)
  rw [if_pos (by rfl)]
  go_simp
  refine (quotient_any bA capA (fastL 0 t0) 2 eA capE L1 d1 _ HR1b.out.tmc HR2.out.tmc (by simp [fastL]) hL1 HBF.out hB1 (by omega) (by omega) hd1 hd2).mono ?_
  rintro e u3 ⟨⟨V, he, hroot⟩, hc3⟩
  subst he
  obtain ⟨v3, rfl, hrow3⟩ := hroot
  have hb4 := hb2.trans (hc3.mono hb2.size)
  (try go_wp2_with fail)
  refine hK.out _ _ ⟨RT.out.up hb4, trivial⟩ (fun _ => ?_)
  clear hK K
  (try simp only [Act.put, List.setIfInBounds_toArray, List.set_cons_zero, List.set_cons_succ])
  obtain ⟨zA, zcap, rfl, hzc, hzm, hzf⟩ := hrow3.form
  have HR3 := Lib.hid hrow3
  have r3 := RR.out.up hb4
  have c20 := RowV.c0 r3
  have c21 := RowV.c1 r3
  have z20 := RowV.z (i := 0) r3
  have z21 := RowV.z (i := 1) r3
  have bw := RB.out.trans (hb4.mono RB.out.size)
  have hs2 := hb2.size
  clear hrow3 r3
  refine wpAnyH_ready (rs := [8]) (by kernel_rfl) (by simp) (AllReadyH.cons (o := ⟨none, _, _, _, _, _⟩) rfl (fun K hK => ?_) AllReadyH.nil)
  rw [if_pos (by rfl)]
  go_simp
  refine hK.out _ _ ⟨RowV.far (RowV.far (RT.out.up hb4) (by omega)) (by omega), trivial⟩ (fun _ => ?_)
  clear hK K
  (try simp only [Act.put, List.setIfInBounds_toArray, List.set_cons_zero, List.set_cons_succ])
  refine wpAnyH_done (by kernel_rfl) ?_ _
  refine NoPanic.normal ?_
  go_wp2
  refine bodyPost_ret (v := .agg #[.slice zA (scL d1 (fastL 0 t0) ++ scL 2 (negL L1)).length zcap, .int .i64 (2 * d1)]) (results_one rfl rfl (load_root2 ?_ ?_)) rfl ⟨⟨_, rfl, _, rfl, RowT.low (B := u2.heap.size) (HR3.out.keep fun k hk => ?_) (by omega)⟩, (bw.setCell (by show w.heap.size ≤ w.heap.size + 1; omega) _).setCell (by show w.heap.size ≤ w.heap.size + 1; omega) _⟩
  · rw [World.cell?_setCell_other _ _ _ _ (by simp), World.cell?_setCell_same _ _ _ c20]
    simp only [List.length_append]
  · exact World.cell?_setCell_same _ _ _ ((World.cell?_setCell_other _ _ _ _ (by simp)).trans c21)
  · have hk2 : k ≠ w.heap.size + 1 := by
      rcases hzf with ⟨rfl, -, -⟩ | ⟨g2, rfl, hg2, -, -⟩
      · cases hk
      · have e2 : g2 = k := Option.some.inj hk
        omega
    exact (setCell_heap hk2).trans (setCell_heap hk2)
end Go.Proofs.YtkoghdgfllichaaDoor.Pc
namespace Go.Proofs.YtkoghdgfllichaaDoor.Pc
open Go.RowKit Tp

/-! spanOf, of a valid standard, temperament and note. -/
def SoP (w : World) (F : Int → Int) (e : Ending) (w' : World) : Prop := ∃ m k, SpanIs F m k ∧ e = .returned (.tuple #[.agg #[.int .i64 m, .int .i64 k], .int .i64 0]) ∧ Below w.heap.size w w'
set_option maxRecDepth 100000 in
set_option maxHeartbeats 2000000 in
theorem spanOf_freq (a t0 t : Int) (T : Tm) (D : Int) (wn n S : Nat) (L : List Rt → List (Nat × Int)) (dd : List Rt → Int) (w : World) (hp : PrL w) (hst : stdE a t0 t = 0) (hl : T.ps.length = 12) (hs : T.nm.size ≤ maxLen) (hk : chkT T = 0) (hv : Vd T D wn) (hn : n ≤ 139) (hS1 : 1 ≤ S) (hS2 : S ≤ 1000000000000)
    (hf : ∀ N g W, NotesL D (fN T D) wn 12 N → RowV W g 90 (fl7 N) → PrL W → Calls Tryd.prog 60 #[.agg (TunV a t0 t g).toArray, .int .i64 (n : Int)] W fun e w' => (∃ V, e = .returned V ∧ RootV w' W.heap.size V (L N) (dd N)) ∧ Below W.heap.size W w')
    (hL : ∀ N, NotesL D (fN T D) wn 12 N → validL (L N) ∧ 1 ≤ dd N ∧ dd N ≤ 1000000 ∧ PwF (L N) (dd N) S 1000000000001 < 0) :
    Calls Tryd.prog 59 #[.agg #[.int .i64 a, .int .i64 t0, .int .i64 t], .agg (tmV T).toArray, .int .i64 (n : Int), .int .i64 (S : Int), .func (.func 60) #[] #[]] w fun e w' => ∃ N, NotesL D (fN T D) wn 12 N ∧ SoP w (PwF (L N) (dd N) S) e w' := by
  have htu := fun W (h : PrL W) => tune_ok a t0 t T D wn W h hst hl hs hk hv
  have hin := fun W => isNote_any (n : Int) W
  have hnb : noteB (n : Int) = true := noteB_iff.2 ⟨by omega, by omega⟩
  rw [hnb] at hin
  have HTU := Lib.hid htu
  have HIN := Lib.hid hin
  have HF := Lib.hid hf
  have HL := Lib.hid hL
  have HPR := Lib.hid hp
  have HI2 := Lib.hid (szT hl)
  have r1 : RowV ((w.alloc (.cells #[.int .i64 a, .int .i64 t0, .int .i64 t] 50)).alloc (.cells (tmV T).toArray 38)) (w.heap.size + 1) 38 (tmV T) := by
    have h := RowV.of_alloc (w.alloc (.cells #[.int .i64 a, .int .i64 t0, .int .i64 t] 50)) 38 (tmV T)
    rw [World.size_alloc] at h
    exact h
  have r2 : RowV (((w.alloc (.cells #[.int .i64 a, .int .i64 t0, .int .i64 t] 50)).alloc (.cells (tmV T).toArray 38)).alloc (.cells #[.int .i64 0, .int .i64 0] 55)) (w.heap.size + 1 + 1) 55 [.int .i64 0, .int .i64 0] := by
    have h := RowV.of_alloc ((w.alloc (.cells #[.int .i64 a, .int .i64 t0, .int .i64 t] 50)).alloc (.cells (tmV T).toArray 38)) 55 [.int .i64 0, .int .i64 0]
    rw [World.size_alloc, World.size_alloc] at h
    exact h
  have HB := Lib.hid (((belB w (.cells #[.int .i64 a, .int .i64 t0, .int .i64 t] 50)).alloc (by simp) (.cells (tmV T).toArray 38)).alloc (by simp; omega) (.cells #[.int .i64 0, .int .i64 0] 55))
  have HR2 := Lib.hid r2
  have HR1 := Lib.hid (r1.alloc (.cells #[.int .i64 0, .int .i64 0] 55))
  clear htu hin hf hL hp hst hl hs hk hv hnb r1 r2
  go_enter Tryd.func59, Tryd.ntmps59
  go_wp2_with ((show wpList _ _ _ (⟨_, .load _ _, _, _, _, _⟩ :: _) _ _); refine wpList_load_mid rfl 38 _ rfl (w.heap.size + 1) 0 rfl (tmV T) _ HR1.out.all Tryd.underlying38 rfl HI2.out ?_)
  refine (HTU.out _ (HPR.out.below HB.out)).mono ?_
  rintro e u1 ⟨N, g, hN, he, hg, hgb, hb1⟩
  subst he
  obtain ⟨hvl, hd1, hd2, hno⟩ := HL.out N hN
  have B1 := Lib.hid (HB.out.trans (hb1.mono HB.out.size))
  have R2 := Lib.hid (HR2.out.up hb1)
  have RG := Lib.hid (hg.alloc (.cells (TunV a t0 t g).toArray 100))
  have RT := Lib.hid (RowV.of_alloc u1 100 (TunV a t0 t g))
  have B2 := Lib.hid ((HB.out.trans (hb1.mono HB.out.size)).alloc (HB.out.trans (hb1.mono HB.out.size)).size (.cells (TunV a t0 t g).toArray 100))
  have R3 := Lib.hid ((HR2.out.up hb1).alloc (.cells (TunV a t0 t g).toArray 100))
  have HN := Lib.hid hN
  clear hb1 hg HB HR1 HR2 HTU hN HL
  rw [show (TunV a t0 t g).toArray = #[.int .i64 a, .int .i64 t0, .int .i64 t, .slice (some ⟨g, 0, none⟩) 12 12] from rfl]
  go_wp2_with fail
  refine (HIN.out _).mono ?_
  rintro e u2 ⟨he, hw⟩
  subst he
  subst hw
  go_wp2_with fail
  refine (HF.out N g _ HN.out RG.out (HPR.out.below B2.out)).mono ?_
  rintro e u3 ⟨⟨V, he, v, rfl, hrow⟩, hb3⟩
  subst he
  obtain ⟨bA, capA, rfl, hcA, hmA, hfA⟩ := hrow.form
  have hA0 : bA = none → capA = 0 := fun e => by
    rcases hfA with ⟨-, -, h⟩ | ⟨g2, h, -⟩
    · exact h
    · rw [e] at h; cases h
  have B3 := Lib.hid ((B2.out.trans (hb3.mono B2.out.size)).alloc (B2.out.trans (hb3.mono B2.out.size)).size (.cells #[.slice bA (L N).length capA, .int .i64 (dd N)] 102))
  have R4 := Lib.hid ((R3.out.up hb3).alloc (.cells #[.slice bA (L N).length capA, .int .i64 (dd N)] 102))
  have HTM := Lib.hid (hrow.up (belB u3 (.cells #[.slice bA (L N).length capA, .int .i64 (dd N)] 102))).tmc
  clear hrow hb3 hfA R3 RT RG B2 B1 R2 HF
  go_wp2_with fail
  refine (span_any bA capA (L N) (dd N) S _ HTM.out hA0 hvl hd1 hd2 hS1 hS2 hno).mono ?_
  rintro e u4 ⟨⟨m, k, he, hm⟩, hb4⟩
  subst he
  have r5 := R4.out.up hb4
  have c0 := RowV.c0 r5
  have c1 := RowV.c1 r5
  have z0 := RowV.z (i := 0) r5
  have z1 := RowV.z (i := 1) r5
  have B5 := Lib.hid (B3.out.trans (hb4.mono B3.out.size))
  have HM := Lib.hid hm
  clear r5 hb4 hm B3 R4 HTM
  go_wp2
  refine bodyPost_ret (v := .tuple #[.agg #[.int .i64 m, .int .i64 k], .int .i64 0]) (Tp.results_cell_tmp (a := 10) (b := 11) rfl rfl (load_iv ?_ ?_)) rfl ⟨N, HN.out, m, k, HM.out, rfl, (B5.out.setCell (by show w.heap.size ≤ w.heap.size + 1 + 1; omega) _).setCell (by show w.heap.size ≤ w.heap.size + 1 + 1; omega) _⟩
  · rw [World.cell?_setCell_other _ _ _ _ (by simp), World.cell?_setCell_same _ _ _ c0]
  · exact World.cell?_setCell_same _ _ _ ((World.cell?_setCell_other _ _ _ _ (by simp)).trans c1)
set_option maxRecDepth 100000 in
set_option maxHeartbeats 2000000 in
theorem spanOf_wave (a t0 t : Int) (T : Tm) (D : Int) (wn n S : Nat) (L : List Rt → List (Nat × Int)) (dd : List Rt → Int) (w : World) (hp : PrL w) (hst : stdE a t0 t = 0) (hl : T.ps.length = 12) (hs : T.nm.size ≤ maxLen) (hk : chkT T = 0) (hv : Vd T D wn) (hn : n ≤ 139) (hS1 : 1 ≤ S) (hS2 : S ≤ 1000000000000)
    (hf : ∀ N g W, NotesL D (fN T D) wn 12 N → RowV W g 90 (fl7 N) → PrL W → Calls Tryd.prog 61 #[.agg (TunV a t0 t g).toArray, .int .i64 (n : Int)] W fun e w' => (∃ V, e = .returned V ∧ RootV w' W.heap.size V (L N) (dd N)) ∧ Below W.heap.size W w')
    (hL : ∀ N, NotesL D (fN T D) wn 12 N → validL (L N) ∧ 1 ≤ dd N ∧ dd N ≤ 1000000 ∧ PwF (L N) (dd N) S 1000000000001 < 0) :
    Calls Tryd.prog 59 #[.agg #[.int .i64 a, .int .i64 t0, .int .i64 t], .agg (tmV T).toArray, .int .i64 (n : Int), .int .i64 (S : Int), .func (.func 61) #[] #[]] w fun e w' => ∃ N, NotesL D (fN T D) wn 12 N ∧ SoP w (PwF (L N) (dd N) S) e w' := by
  have htu := fun W (h : PrL W) => tune_ok a t0 t T D wn W h hst hl hs hk hv
  have hin := fun W => isNote_any (n : Int) W
  have hnb : noteB (n : Int) = true := noteB_iff.2 ⟨by omega, by omega⟩
  rw [hnb] at hin
  have HTU := Lib.hid htu
  have HIN := Lib.hid hin
  have HF := Lib.hid hf
  have HL := Lib.hid hL
  have HPR := Lib.hid hp
  have HI2 := Lib.hid (szT hl)
  have r1 : RowV ((w.alloc (.cells #[.int .i64 a, .int .i64 t0, .int .i64 t] 50)).alloc (.cells (tmV T).toArray 38)) (w.heap.size + 1) 38 (tmV T) := by
    have h := RowV.of_alloc (w.alloc (.cells #[.int .i64 a, .int .i64 t0, .int .i64 t] 50)) 38 (tmV T)
    rw [World.size_alloc] at h
    exact h
  have r2 : RowV (((w.alloc (.cells #[.int .i64 a, .int .i64 t0, .int .i64 t] 50)).alloc (.cells (tmV T).toArray 38)).alloc (.cells #[.int .i64 0, .int .i64 0] 55)) (w.heap.size + 1 + 1) 55 [.int .i64 0, .int .i64 0] := by
    have h := RowV.of_alloc ((w.alloc (.cells #[.int .i64 a, .int .i64 t0, .int .i64 t] 50)).alloc (.cells (tmV T).toArray 38)) 55 [.int .i64 0, .int .i64 0]
    rw [World.size_alloc, World.size_alloc] at h
    exact h
  have HB := Lib.hid (((belB w (.cells #[.int .i64 a, .int .i64 t0, .int .i64 t] 50)).alloc (by simp) (.cells (tmV T).toArray 38)).alloc (by simp; omega) (.cells #[.int .i64 0, .int .i64 0] 55))
  have HR2 := Lib.hid r2
  have HR1 := Lib.hid (r1.alloc (.cells #[.int .i64 0, .int .i64 0] 55))
  clear htu hin hf hL hp hst hl hs hk hv hnb r1 r2
  go_enter Tryd.func59, Tryd.ntmps59
  go_wp2_with ((show wpList _ _ _ (⟨_, .load _ _, _, _, _, _⟩ :: _) _ _); refine wpList_load_mid rfl 38 _ rfl (w.heap.size + 1) 0 rfl (tmV T) _ HR1.out.all Tryd.underlying38 rfl HI2.out ?_)
  refine (HTU.out _ (HPR.out.below HB.out)).mono ?_
  rintro e u1 ⟨N, g, hN, he, hg, hgb, hb1⟩
  subst he
  obtain ⟨hvl, hd1, hd2, hno⟩ := HL.out N hN
  have B1 := Lib.hid (HB.out.trans (hb1.mono HB.out.size))
  have R2 := Lib.hid (HR2.out.up hb1)
  have RG := Lib.hid (hg.alloc (.cells (TunV a t0 t g).toArray 100))
  have RT := Lib.hid (RowV.of_alloc u1 100 (TunV a t0 t g))
  have B2 := Lib.hid ((HB.out.trans (hb1.mono HB.out.size)).alloc (HB.out.trans (hb1.mono HB.out.size)).size (.cells (TunV a t0 t g).toArray 100))
  have R3 := Lib.hid ((HR2.out.up hb1).alloc (.cells (TunV a t0 t g).toArray 100))
  have HN := Lib.hid hN
  clear hb1 hg HB HR1 HR2 HTU hN HL
  rw [show (TunV a t0 t g).toArray = #[.int .i64 a, .int .i64 t0, .int .i64 t, .slice (some ⟨g, 0, none⟩) 12 12] from rfl]
  go_wp2_with fail
  refine (HIN.out _).mono ?_
  rintro e u2 ⟨he, hw⟩
  subst he
  subst hw
  go_wp2_with fail
  refine (HF.out N g _ HN.out RG.out (HPR.out.below B2.out)).mono ?_
  rintro e u3 ⟨⟨V, he, v, rfl, hrow⟩, hb3⟩
  subst he
  obtain ⟨bA, capA, rfl, hcA, hmA, hfA⟩ := hrow.form
  have hA0 : bA = none → capA = 0 := fun e => by
    rcases hfA with ⟨-, -, h⟩ | ⟨g2, h, -⟩
    · exact h
    · rw [e] at h; cases h
  have B3 := Lib.hid ((B2.out.trans (hb3.mono B2.out.size)).alloc (B2.out.trans (hb3.mono B2.out.size)).size (.cells #[.slice bA (L N).length capA, .int .i64 (dd N)] 102))
  have R4 := Lib.hid ((R3.out.up hb3).alloc (.cells #[.slice bA (L N).length capA, .int .i64 (dd N)] 102))
  have HTM := Lib.hid (hrow.up (belB u3 (.cells #[.slice bA (L N).length capA, .int .i64 (dd N)] 102))).tmc
  clear hrow hb3 hfA R3 RT RG B2 B1 R2 HF
  go_wp2_with fail
  refine (span_any bA capA (L N) (dd N) S _ HTM.out hA0 hvl hd1 hd2 hS1 hS2 hno).mono ?_
  rintro e u4 ⟨⟨m, k, he, hm⟩, hb4⟩
  subst he
  have r5 := R4.out.up hb4
  have c0 := RowV.c0 r5
  have c1 := RowV.c1 r5
  have z0 := RowV.z (i := 0) r5
  have z1 := RowV.z (i := 1) r5
  have B5 := Lib.hid (B3.out.trans (hb4.mono B3.out.size))
  have HM := Lib.hid hm
  clear r5 hb4 hm B3 R4 HTM
  go_wp2
  refine bodyPost_ret (v := .tuple #[.agg #[.int .i64 m, .int .i64 k], .int .i64 0]) (Tp.results_cell_tmp (a := 10) (b := 11) rfl rfl (load_iv ?_ ?_)) rfl ⟨N, HN.out, m, k, HM.out, rfl, (B5.out.setCell (by show w.heap.size ≤ w.heap.size + 1 + 1; omega) _).setCell (by show w.heap.size ≤ w.heap.size + 1 + 1; omega) _⟩
  · rw [World.cell?_setCell_other _ _ _ _ (by simp), World.cell?_setCell_same _ _ _ c0]
  · exact World.cell?_setCell_same _ _ _ ((World.cell?_setCell_other _ _ _ _ (by simp)).trans c1)
end Go.Proofs.YtkoghdgfllichaaDoor.Pc
