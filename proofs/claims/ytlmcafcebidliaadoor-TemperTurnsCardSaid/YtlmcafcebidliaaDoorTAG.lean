import Derived.Test.YtlmcafcebidliaaDoorTAF
namespace Go.Proofs.YtlmcafcebidliaaDoor.Tp
open Go.RowKit

/-! Turn, the program's and the reference's, where it is refused. -/
set_option maxRecDepth 100000 in
set_option maxHeartbeats 1000000 in
theorem Turn_bad1 (T : Tm) (b : Int) (w : World) (hl : T.ps.length = 12) (hs : T.nm.size ≤ maxLen) (hk : chkT T ≠ 0) : Calls Tryd.prog 11 #[.agg (tmV T).toArray, .int .i64 b] w fun e w' => e = .returned (.tuple #[.agg (tmV tm0).toArray, .int .i64 (chkT T)]) ∧ Below w.heap.size w w' := by
  have hz := zero26
  have hr0 := (RowV.of_alloc w 26 (tmV T)).alloc (.cells (tmV tm0).toArray 26)
  have hr1 : RowV ((w.alloc (.cells (tmV T).toArray 26)).alloc (.cells (tmV tm0).toArray 26)) (w.heap.size + 1) 26 (tmV tm0) := by
    have h := RowV.of_alloc (w.alloc (.cells (tmV T).toArray 26)) 26 (tmV tm0)
    rw [World.size_alloc] at h
    exact h
  have HR0 := Lib.hid hr0
  have HR1 := Lib.hid hr1
  have HB := Lib.hid ((belB w (.cells (tmV T).toArray 26)).alloc (by simp) (.cells (tmV tm0).toArray 26))
  have HI2 := Lib.hid (szT hl)
  have HSZ := Lib.hid (szT (T := tm0) rfl)
  have HBT : Hid (Tryd.prog.built 26 [] = some (tmV tm0).toArray) := Lib.hid (by kernel_rfl)
  have hck := fun W => Check_any T W hl hs
  have hkb : (chkT T != 0) = true := by simp [hk]
  generalize chkT T = ck at *
  have HCK := Lib.hid hck
  clear hl hs hck hr0 hr1
  go_enter Tryd.func11, Tryd.ntmps11
  go_wp2_with ((show wpList _ _ _ (⟨_, .load _ _, _, _, _, _⟩ :: _) _ _); refine wpList_load_mid rfl 26 _ rfl w.heap.size 0 rfl (tmV T) _ HR0.out.all Tryd.underlying26 rfl HI2.out ?_)
  refine (HCK.out _).mono ?_
  rintro e W ⟨he, hb1⟩
  subst he
  have h1 := HR1.out.up (hb1.mono (by simp))
  have h2 := HB.out.trans (hb1.mono (by simp; omega))
  have h3 : W.there (w.heap.size + 1) 0 (tmV tm0).toArray.size := h1.there (by decide)
  have h4 := h1.setCells (tmV tm0) 0 _ _ (by decide)
  rw [tmV_put tm0 rfl] at h4
  have HTH := Lib.hid h3
  have HR4 := Lib.hid h4
  have HB2 := Lib.hid h2
  clear hb1 h1 h2 h3 h4 HR0 HR1 HB HCK
  go_wp2_with (first | ((show wpList _ _ _ (⟨_, .build _ _, _, _, _, _⟩ :: _) _ _); refine wpList_built rfl 26 _ rfl (tmV tm0).toArray [] rfl HBT.out ?_) | ((show wpList _ _ _ (⟨_, .store _ _ _, _, _, _, _⟩ :: _) _ _); refine wpList_store_mid rfl 26 _ _ rfl (w.heap.size + 1) 0 (tmV tm0).toArray rfl rfl HTH.out HSZ.out (oneT _) ?_))
  exact bodyPost_ret (v := .tuple #[.agg (tmV tm0).toArray, .int .i64 ck]) (results_cell_tmp (a := 4) (b := 5) rfl rfl (run_loadVar_mid _ _ 0 _ (tmV tm0) _ HR4.out.all Tryd.underlying26 rfl HSZ.out)) rfl ⟨rfl, below_setCells _ _ _ HB2.out (by omega)⟩
set_option maxRecDepth 100000 in
set_option maxHeartbeats 1000000 in
theorem rTurn_bad1 (T : Tm) (b : Int) (w : World) (hl : T.ps.length = 12) (hs : T.nm.size ≤ maxLen) (hk : chkT T ≠ 0) : Calls Tryd.prog 12 #[.agg (tmV T).toArray, .int .i64 b] w fun e w' => e = .returned (.tuple #[.agg (tmV tm0).toArray, .int .i64 (chkT T)]) ∧ Below w.heap.size w w' := by
  have hz := zero26
  have hr0 := (RowV.of_alloc w 26 (tmV T)).alloc (.cells (tmV tm0).toArray 26)
  have hr1 : RowV ((w.alloc (.cells (tmV T).toArray 26)).alloc (.cells (tmV tm0).toArray 26)) (w.heap.size + 1) 26 (tmV tm0) := by
    have h := RowV.of_alloc (w.alloc (.cells (tmV T).toArray 26)) 26 (tmV tm0)
    rw [World.size_alloc] at h
    exact h
  have HR0 := Lib.hid hr0
  have HR1 := Lib.hid hr1
  have HB := Lib.hid ((belB w (.cells (tmV T).toArray 26)).alloc (by simp) (.cells (tmV tm0).toArray 26))
  have HI2 := Lib.hid (szT hl)
  have HSZ := Lib.hid (szT (T := tm0) rfl)
  have HBT : Hid (Tryd.prog.built 26 [] = some (tmV tm0).toArray) := Lib.hid (by kernel_rfl)
  have hck := fun W => rCheck_any T W hl hs
  have hkb : (chkT T != 0) = true := by simp [hk]
  generalize chkT T = ck at *
  have HCK := Lib.hid hck
  clear hl hs hck hr0 hr1
  go_enter Tryd.func12, Tryd.ntmps12
  go_wp2_with ((show wpList _ _ _ (⟨_, .load _ _, _, _, _, _⟩ :: _) _ _); refine wpList_load_mid rfl 26 _ rfl w.heap.size 0 rfl (tmV T) _ HR0.out.all Tryd.underlying26 rfl HI2.out ?_)
  refine (HCK.out _).mono ?_
  rintro e W ⟨he, hb1⟩
  subst he
  have h1 := HR1.out.up (hb1.mono (by simp))
  have h2 := HB.out.trans (hb1.mono (by simp; omega))
  have h3 : W.there (w.heap.size + 1) 0 (tmV tm0).toArray.size := h1.there (by decide)
  have h4 := h1.setCells (tmV tm0) 0 _ _ (by decide)
  rw [tmV_put tm0 rfl] at h4
  have HTH := Lib.hid h3
  have HR4 := Lib.hid h4
  have HB2 := Lib.hid h2
  clear hb1 h1 h2 h3 h4 HR0 HR1 HB HCK
  go_wp2_with (first | ((show wpList _ _ _ (⟨_, .build _ _, _, _, _, _⟩ :: _) _ _); refine wpList_built rfl 26 _ rfl (tmV tm0).toArray [] rfl HBT.out ?_) | ((show wpList _ _ _ (⟨_, .store _ _ _, _, _, _, _⟩ :: _) _ _); refine wpList_store_mid rfl 26 _ _ rfl (w.heap.size + 1) 0 (tmV tm0).toArray rfl rfl HTH.out HSZ.out (oneT _) ?_))
  exact bodyPost_ret (v := .tuple #[.agg (tmV tm0).toArray, .int .i64 ck]) (results_cell_tmp (a := 4) (b := 5) rfl rfl (run_loadVar_mid _ _ 0 _ (tmV tm0) _ HR4.out.all Tryd.underlying26 rfl HSZ.out)) rfl ⟨rfl, below_setCells _ _ _ HB2.out (by omega)⟩
set_option maxRecDepth 100000 in
set_option maxHeartbeats 1000000 in
theorem Turn_bad2 (T : Tm) (b : Int) (w : World) (hl : T.ps.length = 12) (hs : T.nm.size ≤ maxLen) (hk : chkT T = 0) (hb : clB b = false) : Calls Tryd.prog 11 #[.agg (tmV T).toArray, .int .i64 b] w fun e w' => e = .returned (.tuple #[.agg (tmV tm0).toArray, .int .i64 2]) ∧ Below w.heap.size w w' := by
  have hz := zero26
  have hr0 := (RowV.of_alloc w 26 (tmV T)).alloc (.cells (tmV tm0).toArray 26)
  have hr1 : RowV ((w.alloc (.cells (tmV T).toArray 26)).alloc (.cells (tmV tm0).toArray 26)) (w.heap.size + 1) 26 (tmV tm0) := by
    have h := RowV.of_alloc (w.alloc (.cells (tmV T).toArray 26)) 26 (tmV tm0)
    rw [World.size_alloc] at h
    exact h
  have HR0 := Lib.hid hr0
  have HR1 := Lib.hid hr1
  have HB := Lib.hid ((belB w (.cells (tmV T).toArray 26)).alloc (by simp) (.cells (tmV tm0).toArray 26))
  have HI2 := Lib.hid (szT hl)
  have HSZ := Lib.hid (szT (T := tm0) rfl)
  have HBT : Hid (Tryd.prog.built 26 [] = some (tmV tm0).toArray) := Lib.hid (by kernel_rfl)
  have hck := fun W => Check_any T W hl hs
  rw [hk] at hck
  have HCK := Lib.hid hck
  have hcl := fun W => isClass_any b W
  rw [hb] at hcl
  have HCL := Lib.hid hcl
  clear hcl
  clear hl hs hck hk hr0 hr1
  go_enter Tryd.func11, Tryd.ntmps11
  go_wp2_with ((show wpList _ _ _ (⟨_, .load _ _, _, _, _, _⟩ :: _) _ _); refine wpList_load_mid rfl 26 _ rfl w.heap.size 0 rfl (tmV T) _ HR0.out.all Tryd.underlying26 rfl HI2.out ?_)
  refine (HCK.out _).mono ?_
  rintro e W ⟨he, hb1⟩
  subst he
  have h1 := HR1.out.up (hb1.mono (by simp))
  have h2 := HB.out.trans (hb1.mono (by simp; omega))
  have h3 : W.there (w.heap.size + 1) 0 (tmV tm0).toArray.size := h1.there (by decide)
  have h4 := h1.setCells (tmV tm0) 0 _ _ (by decide)
  rw [tmV_put tm0 rfl] at h4
  have HTH := Lib.hid h3
  have HR4 := Lib.hid h4
  have HB2 := Lib.hid h2
  clear hb1 h1 h2 h3 h4 HR0 HR1 HB HCK
  go_wp2_with fail
  refine (HCL.out _).mono ?_
  rintro e W2 ⟨he, hw⟩
  subst he
  subst hw
  go_wp2_with (first | ((show wpList _ _ _ (⟨_, .build _ _, _, _, _, _⟩ :: _) _ _); refine wpList_built rfl 26 _ rfl (tmV tm0).toArray [] rfl HBT.out ?_) | ((show wpList _ _ _ (⟨_, .store _ _ _, _, _, _, _⟩ :: _) _ _); refine wpList_store_mid rfl 26 _ _ rfl (w.heap.size + 1) 0 (tmV tm0).toArray rfl rfl HTH.out HSZ.out (oneT _) ?_))
  exact bodyPost_ret (v := .tuple #[.agg (tmV tm0).toArray, .int .i64 2]) (results_cell_tmp (a := 4) (b := 5) rfl rfl (run_loadVar_mid _ _ 0 _ (tmV tm0) _ HR4.out.all Tryd.underlying26 rfl HSZ.out)) rfl ⟨rfl, below_setCells _ _ _ HB2.out (by omega)⟩
set_option maxRecDepth 100000 in
set_option maxHeartbeats 1000000 in
theorem rTurn_bad2 (T : Tm) (b : Int) (w : World) (hl : T.ps.length = 12) (hs : T.nm.size ≤ maxLen) (hk : chkT T = 0) (hb : b < 0) : Calls Tryd.prog 12 #[.agg (tmV T).toArray, .int .i64 b] w fun e w' => e = .returned (.tuple #[.agg (tmV tm0).toArray, .int .i64 2]) ∧ Below w.heap.size w w' := by
  have hz := zero26
  have hr0 := (RowV.of_alloc w 26 (tmV T)).alloc (.cells (tmV tm0).toArray 26)
  have hr1 : RowV ((w.alloc (.cells (tmV T).toArray 26)).alloc (.cells (tmV tm0).toArray 26)) (w.heap.size + 1) 26 (tmV tm0) := by
    have h := RowV.of_alloc (w.alloc (.cells (tmV T).toArray 26)) 26 (tmV tm0)
    rw [World.size_alloc] at h
    exact h
  have HR0 := Lib.hid hr0
  have HR1 := Lib.hid hr1
  have HB := Lib.hid ((belB w (.cells (tmV T).toArray 26)).alloc (by simp) (.cells (tmV tm0).toArray 26))
  have HI2 := Lib.hid (szT hl)
  have HSZ := Lib.hid (szT (T := tm0) rfl)
  have HBT : Hid (Tryd.prog.built 26 [] = some (tmV tm0).toArray) := Lib.hid (by kernel_rfl)
  have hck := fun W => rCheck_any T W hl hs
  rw [hk] at hck
  have HCK := Lib.hid hck
  clear hl hs hck hk hr0 hr1
  go_enter Tryd.func12, Tryd.ntmps12
  go_wp2_with ((show wpList _ _ _ (⟨_, .load _ _, _, _, _, _⟩ :: _) _ _); refine wpList_load_mid rfl 26 _ rfl w.heap.size 0 rfl (tmV T) _ HR0.out.all Tryd.underlying26 rfl HI2.out ?_)
  refine (HCK.out _).mono ?_
  rintro e W ⟨he, hb1⟩
  subst he
  have h1 := HR1.out.up (hb1.mono (by simp))
  have h2 := HB.out.trans (hb1.mono (by simp; omega))
  have h3 : W.there (w.heap.size + 1) 0 (tmV tm0).toArray.size := h1.there (by decide)
  have h4 := h1.setCells (tmV tm0) 0 _ _ (by decide)
  rw [tmV_put tm0 rfl] at h4
  have HTH := Lib.hid h3
  have HR4 := Lib.hid h4
  have HB2 := Lib.hid h2
  clear hb1 h1 h2 h3 h4 HR0 HR1 HB HCK
  go_wp2_with (first | ((show wpList _ _ _ (⟨_, .build _ _, _, _, _, _⟩ :: _) _ _); refine wpList_built rfl 26 _ rfl (tmV tm0).toArray [] rfl HBT.out ?_) | ((show wpList _ _ _ (⟨_, .store _ _ _, _, _, _, _⟩ :: _) _ _); refine wpList_store_mid rfl 26 _ _ rfl (w.heap.size + 1) 0 (tmV tm0).toArray rfl rfl HTH.out HSZ.out (oneT _) ?_))
  exact bodyPost_ret (v := .tuple #[.agg (tmV tm0).toArray, .int .i64 2]) (results_cell_tmp (a := 4) (b := 5) rfl rfl (run_loadVar_mid _ _ 0 _ (tmV tm0) _ HR4.out.all Tryd.underlying26 rfl HSZ.out)) rfl ⟨rfl, below_setCells _ _ _ HB2.out (by omega)⟩
set_option maxRecDepth 100000 in
set_option maxHeartbeats 1000000 in
theorem rTurn_bad3 (T : Tm) (b : Int) (w : World) (hl : T.ps.length = 12) (hs : T.nm.size ≤ maxLen) (hk : chkT T = 0) (hb : 11 < b) : Calls Tryd.prog 12 #[.agg (tmV T).toArray, .int .i64 b] w fun e w' => e = .returned (.tuple #[.agg (tmV tm0).toArray, .int .i64 2]) ∧ Below w.heap.size w w' := by
  have hz := zero26
  have hr0 := (RowV.of_alloc w 26 (tmV T)).alloc (.cells (tmV tm0).toArray 26)
  have hr1 : RowV ((w.alloc (.cells (tmV T).toArray 26)).alloc (.cells (tmV tm0).toArray 26)) (w.heap.size + 1) 26 (tmV tm0) := by
    have h := RowV.of_alloc (w.alloc (.cells (tmV T).toArray 26)) 26 (tmV tm0)
    rw [World.size_alloc] at h
    exact h
  have HR0 := Lib.hid hr0
  have HR1 := Lib.hid hr1
  have HB := Lib.hid ((belB w (.cells (tmV T).toArray 26)).alloc (by simp) (.cells (tmV tm0).toArray 26))
  have HI2 := Lib.hid (szT hl)
  have HSZ := Lib.hid (szT (T := tm0) rfl)
  have HBT : Hid (Tryd.prog.built 26 [] = some (tmV tm0).toArray) := Lib.hid (by kernel_rfl)
  have hck := fun W => rCheck_any T W hl hs
  rw [hk] at hck
  have HCK := Lib.hid hck
  have hb0 : ¬ b < 0 := by omega
  clear hl hs hck hk hr0 hr1
  go_enter Tryd.func12, Tryd.ntmps12
  go_wp2_with ((show wpList _ _ _ (⟨_, .load _ _, _, _, _, _⟩ :: _) _ _); refine wpList_load_mid rfl 26 _ rfl w.heap.size 0 rfl (tmV T) _ HR0.out.all Tryd.underlying26 rfl HI2.out ?_)
  refine (HCK.out _).mono ?_
  rintro e W ⟨he, hb1⟩
  subst he
  have h1 := HR1.out.up (hb1.mono (by simp))
  have h2 := HB.out.trans (hb1.mono (by simp; omega))
  have h3 : W.there (w.heap.size + 1) 0 (tmV tm0).toArray.size := h1.there (by decide)
  have h4 := h1.setCells (tmV tm0) 0 _ _ (by decide)
  rw [tmV_put tm0 rfl] at h4
  have HTH := Lib.hid h3
  have HR4 := Lib.hid h4
  have HB2 := Lib.hid h2
  clear hb1 h1 h2 h3 h4 HR0 HR1 HB HCK
  go_wp2_with (first | ((show wpList _ _ _ (⟨_, .build _ _, _, _, _, _⟩ :: _) _ _); refine wpList_built rfl 26 _ rfl (tmV tm0).toArray [] rfl HBT.out ?_) | ((show wpList _ _ _ (⟨_, .store _ _ _, _, _, _, _⟩ :: _) _ _); refine wpList_store_mid rfl 26 _ _ rfl (w.heap.size + 1) 0 (tmV tm0).toArray rfl rfl HTH.out HSZ.out (oneT _) ?_))
  exact bodyPost_ret (v := .tuple #[.agg (tmV tm0).toArray, .int .i64 2]) (results_cell_tmp (a := 4) (b := 5) rfl rfl (run_loadVar_mid _ _ 0 _ (tmV tm0) _ HR4.out.all Tryd.underlying26 rfl HSZ.out)) rfl ⟨rfl, below_setCells _ _ _ HB2.out (by omega)⟩
end Go.Proofs.YtlmcafcebidliaaDoor.Tp
namespace Go.Proofs.YtlmcafcebidliaaDoor.Tp
open Go.RowKit

/-! The reference's Turn of a valid temperament. -/
theorem turS_any {T : Tm} {b : Nat} {P0 : List (Int × Int)} (hl : P0.length = 12) : turS T b P0 12 = turS T b (onesP 0) 12 := by
  apply List.ext_getElem?
  intro p
  by_cases hp : p < 12
  · rw [turS_at hl hp (Nat.le_refl _), turS_at rfl hp (Nat.le_refl _), if_pos (Nat.mod_lt _ (by omega)), if_pos (Nat.mod_lt _ (by omega))]
  · rw [List.getElem?_eq_none (by rw [turS_len, hl]; omega), List.getElem?_eq_none (by rw [turS_len]; show 12 ≤ p; omega)]
def RuRel (w : World) (T : Tm) (b gT : Nat) (iv : Value) (wr : World) : Prop :=
  ∃ i : Nat, i ≤ 12 ∧ iv = .int .i64 (i : Int) ∧ RowV wr w.heap.size 26 (tmV T) ∧ RowV wr (w.heap.size + 1) 26 (tmV tm0) ∧ RowV wr gT 26 (tmV ⟨T.nm, T.sy, T.wo, turS T b T.ps i⟩) ∧ Below w.heap.size w wr
set_option maxRecDepth 100000 in
set_option maxHeartbeats 4000000 in
theorem rTurn_ok (T : Tm) (wn b : Nat) (w : World) (hl : T.ps.length = 12) (hs : T.nm.size ≤ maxLen) (hk : chkT T = 0) (hwn : T.wo = (wn : Int)) (hw12 : wn < 12) (hb12 : b < 12) : Calls Tryd.prog 12 #[.agg (tmV T).toArray, .int .i64 (b : Int)] w fun e w' => e = .returned (.tuple #[.agg (tmV (turnT T b ((wn + 7 * b) % 12))).toArray, .int .i64 0]) ∧ Below w.heap.size w w' := by
  obtain ⟨m, hm⟩ : ∃ m, m = (wn + 7 * b) % 12 := ⟨_, rfl⟩
  rw [← hm]
  have hmI : ((wn : Int) + 7 * (b : Int)) % 12 = (m : Int) := by omega
  have hmT : ((wn : Int) + 7 * (b : Int)).tmod 12 = (m : Int) := by rw [Int.tmod_eq_emod_of_nonneg (by omega)]; exact hmI
  have hz := zero26
  have hr0 := (RowV.of_alloc w 26 (tmV T)).alloc (.cells (tmV tm0).toArray 26)
  have hr1 : RowV ((w.alloc (.cells (tmV T).toArray 26)).alloc (.cells (tmV tm0).toArray 26)) (w.heap.size + 1) 26 (tmV tm0) := by
    have h := RowV.of_alloc (w.alloc (.cells (tmV T).toArray 26)) 26 (tmV tm0)
    rw [World.size_alloc] at h
    exact h
  have HR0 := Lib.hid hr0
  have HR1 := Lib.hid hr1
  have HB := Lib.hid ((belB w (.cells (tmV T).toArray 26)).alloc (by simp) (.cells (tmV tm0).toArray 26))
  have HI2 := Lib.hid (szT hl)
  have HL := Lib.hid hl
  have hck := fun W => rCheck_any T W hl hs
  rw [hk] at hck
  have HCK := Lib.hid hck
  have HWN := Lib.hid hwn
  have w1 : IntKind.i64.wrap (7 * (b : Int)) = 7 * (b : Int) := IntWalk.i64_in _ (by omega)
  have w2 : IntKind.i64.wrap ((wn : Int) + 7 * (b : Int)) = (wn : Int) + 7 * (b : Int) := IntWalk.i64_in _ (by omega)
  have b0 : ¬ (b : Int) < 0 := by omega
  have b1 : ¬ (11 : Int) < (b : Int) := by omega
  clear hl hs hk hwn hr0 hr1 hck hm
  go_enter Tryd.func12, Tryd.ntmps12
  go_wp2_with ((show wpList _ _ _ (⟨_, .load _ _, _, _, _, _⟩ :: _) _ _); refine wpList_load_mid rfl 26 _ rfl w.heap.size 0 rfl (tmV T) _ HR0.out.all Tryd.underlying26 rfl HI2.out ?_)
  refine (HCK.out _).mono ?_
  rintro e W ⟨he, hb1⟩
  subst he
  have A0 := Lib.hid (HR0.out.up (hb1.mono (by simp)))
  have A1 := Lib.hid (HR1.out.up (hb1.mono (by simp)))
  have AB := Lib.hid (HB.out.trans (hb1.mono (by simp; omega)))
  clear hb1 HR0 HR1 HB HCK
  have hg1 : w.heap.size + 1 < W.heap.size := A1.out.lt
  have r0 := RowV.of_alloc W 26 (tmV tm0)
  have hth : (W.alloc (.cells (tmV tm0).toArray 26)).there W.heap.size 0 (tmV T).toArray.size := r0.there (by rw [List.size_toArray, tmV_len, tmV_len, HL.out]; decide)
  have r1 := r0.setCells (tmV T) 0 _ _ (by rw [tmV_len, tmV_len, HL.out]; decide)
  rw [tmV_put T HL.out] at r1
  have bA := below_setCells (g := W.heap.size) (tmV T) 0 _ (belB W (.cells (tmV tm0).toArray 26)) (Nat.le_refl _)
  have HTH := Lib.hid hth
  have Q0 := Lib.hid (A0.out.up bA)
  have Q1 := Lib.hid (A1.out.up bA)
  have QB := Lib.hid (AB.out.trans (bA.mono AB.out.size))
  have QT := Lib.hid r1
  clear r0 hth r1 bA A1 AB
  go_wp2_with (first | ((show wpList _ _ _ (⟨_, .load _ _, _, _, _, _⟩ :: _) _ _); refine wpList_load_mid rfl 26 _ rfl w.heap.size 0 rfl (tmV T) _ A0.out.all Tryd.underlying26 rfl HI2.out ?_) | ((show wpList _ _ _ (⟨_, .store _ _ _, _, _, _, _⟩ :: _) _ _); refine wpList_store_mid rfl 26 _ _ rfl W.heap.size 0 (tmV T).toArray rfl rfl HTH.out HI2.out (oneT T) ?_))
  generalize ((W.alloc (.cells (tmV tm0).toArray 26)).setCells W.heap.size 0 (tmV T)) = WF at *
  clear A0 HTH
  generalize W.heap.size = gT at *
  go_loopw [8] (fun iv wr => RuRel w T b gT iv wr) (fun iv _ => 12 - (intOf iv).toNat)
  case atStart => exact ⟨0, Nat.zero_le _, rfl, Q0.out, Q1.out, QT.out, QB.out⟩
  case round =>
    clear Q0 Q1 QT QB
    obtain ⟨i, hi, rfl, h0, h1, h2, hb⟩ := hrel
    have H0 := Lib.hid h0
    have H1 := Lib.hid h1
    have H2 := Lib.hid h2
    have HB := Lib.hid hb
    clear h0 h1 h2 hb
    by_cases hil : i < 12
    · obtain ⟨⟨n, d⟩, hn⟩ : ∃ p, T.ps[i]? = some p := ⟨T.ps[i]'(by have := HL.out; omega), List.getElem?_eq_getElem _⟩
      have hpn := psN_at hn
      have hilI : (i : Int) < 12 := by omega
      obtain ⟨q, hq⟩ : ∃ q, q = (i + 7 * b) % 12 := ⟨_, rfl⟩
      have hqI : ((i : Int) + 7 * (b : Int)) % 12 = (q : Int) := by omega
      have hqT : ((i : Int) + 7 * (b : Int)).tmod 12 = (q : Int) := by rw [Int.tmod_eq_emod_of_nonneg (by omega)]; exact hqI
      have hq12 : (q : Int) < 12 := by omega
      have hszr := HB.out.size
      have h2lt := H2.out.lt
      obtain ⟨⟨n0, d0⟩, hp⟩ : ∃ p, (turS T b T.ps i)[q]? = some p := ⟨(turS T b T.ps i)[q]'(by rw [turS_len, HL.out]; omega), List.getElem?_eq_getElem _⟩
      have ha2 := H2.out
      obtain ⟨c1, c2⟩ := part_cells H0.out hn
      obtain ⟨c3, c4⟩ := part_cells (T := ⟨T.nm, T.sy, T.wo, turS T b T.ps i⟩) ha2 hp
      have e : wr.heap[gT]? = some (.cells (tmV ⟨T.nm, T.sy, T.wo, turS T b T.ps i⟩).toArray 26 (0, 0)) := ha2
      have z3 : wr.frozen? ⟨gT, 3 + q * 2, none⟩ = false := by unfold World.frozen?; rw [e]; rfl
      have z4 : wr.frozen? ⟨gT, 3 + q * 2 + 1, none⟩ = false := by unfold World.frozen?; rw [e]; rfl
      have HPN := Lib.hid hpn
      have HQ := Lib.hid hq
      have HPP := Lib.hid hp
      clear hn hpn hq hp e ha2
      go_wp2
      refine ⟨⟨i + 1, by omega, by go_num, ?_, ?_, ?_, (HB.out.setCell (by show w.heap.size ≤ gT; omega) _).setCell (by show w.heap.size ≤ gT; omega) _⟩, by simp [intOf]; omega⟩
      · exact (setCell_heap (Nat.ne_of_lt (by omega))).trans ((setCell_heap (Nat.ne_of_lt (by omega))).trans H0.out)
      · exact (setCell_heap (Nat.ne_of_lt hg1)).trans ((setCell_heap (Nat.ne_of_lt hg1)).trans H1.out)
      · have h := (H2.out.setCell (3 + q * 2) (.int .i64 n)).setCell (3 + q * 2 + 1) (.int .i64 d)
        rw [tmV_set (T := ⟨T.nm, T.sy, T.wo, turS T b T.ps i⟩) n d HPP.out] at h
        show RowV _ gT 26 (tmV ⟨T.nm, T.sy, T.wo, (turS T b T.ps i).set ((i + 7 * b) % 12) (psN T i)⟩)
        rw [← HQ.out, HPN.out]
        exact h
    · obtain rfl : i = 12 := by omega
      have h2 := H2.out
      rw [turS_any HL.out] at h2
      have e : wr.heap[gT]? = some (.cells (tmV ⟨T.nm, T.sy, T.wo, turS T b (onesP 0) 12⟩).toArray 26 (0, 0)) := h2
      have c0 : wr.cell? ⟨w.heap.size, 2, none⟩ = some (.int .i64 (wn : Int)) := H0.out.cell (i := 2) (by rw [← HWN.out]; rfl)
      have c2 : wr.cell? ⟨gT, 2, none⟩ = some (.int .i64 (wn : Int)) := h2.cell (i := 2) (by rw [← HWN.out]; rfl)
      have z2 : wr.frozen? ⟨gT, 2, none⟩ = false := by unfold World.frozen?; rw [e]; rfl
      have h3 : RowV (wr.setCell ⟨gT, 2, none⟩ (.int .i64 (m : Int))) gT 26 (tmV (turnT T b m)) := h2.setCell 2 (.int .i64 (m : Int))
      have h1 : RowV (wr.setCell ⟨gT, 2, none⟩ (.int .i64 (m : Int))) (w.heap.size + 1) 26 (tmV tm0) := (setCell_heap (Nat.ne_of_lt hg1)).trans H1.out
      have hb2 := HB.out.setCell (p := ⟨gT, 2, none⟩) (by show w.heap.size ≤ gT; omega) (.int .i64 (m : Int))
      have hr4 := h1.setCells (tmV (turnT T b m)) 0 _ _ (by rw [tmV_len, tmV_len, turnT_len]; decide)
      rw [tmV_put _ (turnT_len T b m)] at hr4
      have hth : (wr.setCell ⟨gT, 2, none⟩ (.int .i64 (m : Int))).there (w.heap.size + 1) 0 (tmV (turnT T b m)).toArray.size := h1.there (by rw [List.size_toArray, tmV_len, tmV_len, turnT_len]; decide)
      have HTH := Lib.hid hth
      have HR4 := Lib.hid hr4
      have H2A := Lib.hid h3.all
      have HB2 := Lib.hid hb2
      have HSZ := Lib.hid (szT (T := turnT T b m) (turnT_len T b m))
      clear hth hr4 h3 h1 hb2 h2 e H0 H1 H2 HB
      go_wp2_with (first | ((show wpList _ _ _ (⟨_, .load _ _, _, _, _, _⟩ :: _) _ _); refine wpList_load_mid rfl 26 _ rfl gT 0 rfl (tmV (turnT T b m)) _ H2A.out Tryd.underlying26 rfl HSZ.out ?_) | ((show wpList _ _ _ (⟨_, .store _ _ _, _, _, _, _⟩ :: _) _ _); refine wpList_store_mid rfl 26 _ _ rfl (w.heap.size + 1) 0 (tmV (turnT T b m)).toArray rfl rfl HTH.out HSZ.out (oneT _) ?_))
      exact bodyPost_ret (v := .tuple #[.agg (tmV (turnT T b m)).toArray, .int .i64 0]) (results_cell_tmp (a := 4) (b := 5) rfl rfl (run_loadVar_mid _ _ 0 _ (tmV (turnT T b m)) _ HR4.out.all Tryd.underlying26 rfl HSZ.out)) rfl ⟨rfl, below_setCells _ _ _ HB2.out (by omega)⟩
end Go.Proofs.YtlmcafcebidliaaDoor.Tp
namespace Go.Proofs.YtlmcafcebidliaaDoor.Tp
open Go.RowKit

/-! The reference's made. -/
def MaRel (w : World) (nm : ByteArray) (sy : Bool) (wo : Int) (iv : Value) (wr : World) : Prop := ∃ i : Nat, i ≤ 12 ∧ iv = .int .i64 (i : Int) ∧ RowV wr w.heap.size 26 (tmV tm0) ∧ RowV wr (w.heap.size + 1) 26 (tmV ⟨nm, sy, wo, onesP i⟩) ∧ Below w.heap.size w wr
def MbRel (w : World) (nm : ByteArray) (sy : Bool) (wo den : Int) (L : List Nat) (iv : Value) (wr : World) : Prop := ∃ j : Nat, j ≤ L.length ∧ iv = .int .i64 (j : Int) ∧ RowV wr w.heap.size 26 (tmV tm0) ∧ RowV wr (w.heap.size + 1) 26 (tmV ⟨nm, sy, wo, narP den (L.take j)⟩) ∧ Below w.heap.size w wr
set_option maxRecDepth 100000 in
set_option maxHeartbeats 4000000 in
theorem made_any (nm : ByteArray) (sy : Bool) (wo den : Int) (L : List Nat) (A : Option Addr) (cap : Nat) (w : World) (hL : L.length ≤ 12) (h12 : ∀ x ∈ L, x < 12)
    (hA : ∀ j x : Nat, L[j]? = some x → ∃ g, A = some ⟨g, 0, none⟩ ∧ g < w.heap.size ∧ w.cell? ⟨g, j, none⟩ = some (.int .i64 (x : Int))) :
    Calls Tryd.prog 34 #[.string nm, .bool sy, .int .i64 wo, .int .i64 den, .slice A L.length cap] w fun e w' => e = .returned (.agg (tmV ⟨nm, sy, wo, narP den L⟩).toArray) ∧ Below w.heap.size w w' := by
  have hz := zero26
  have hr0 : RowV ((w.alloc (.cells (tmV tm0).toArray 26)).alloc (.cells (tmV tm0).toArray 26)) w.heap.size 26 (tmV tm0) := (RowV.of_alloc w 26 (tmV tm0)).alloc _
  have hr1 : RowV ((w.alloc (.cells (tmV tm0).toArray 26)).alloc (.cells (tmV tm0).toArray 26)) (w.heap.size + 1) 26 (tmV tm0) := by
    have h := RowV.of_alloc (w.alloc (.cells (tmV tm0).toArray 26)) 26 (tmV tm0)
    rw [World.size_alloc] at h
    exact h
  have hb : Below w.heap.size w ((w.alloc (.cells (tmV tm0).toArray 26)).alloc (.cells (tmV tm0).toArray 26)) := (belB w _).alloc (by simp) _
  obtain ⟨TM, hTM⟩ : ∃ TM : Tm, TM = ⟨nm, sy, wo, onesP 0⟩ := ⟨_, rfl⟩
  have htl : TM.ps.length = 12 := by rw [hTM]; rfl
  have HBT : Hid (Tryd.prog.built 26 [(0, .string nm), (1, .bool sy), (2, .int .i64 wo)] = some (tmV TM).toArray) := Lib.hid (by rw [hTM]; kernel_rfl)
  have hth := hr1.there (o := 0) (n := (tmV TM).toArray.size) (by rw [List.size_toArray, tmV_len, tmV_len, htl]; decide)
  have h1 := hr1.setCells (tmV TM) 0 _ _ (by rw [tmV_len, tmV_len, htl]; decide)
  rw [tmV_put TM htl, hTM] at h1
  have h0 : RowV (((w.alloc (.cells (tmV tm0).toArray 26)).alloc (.cells (tmV tm0).toArray 26)).setCells (w.heap.size + 1) 0 (tmV TM)) w.heap.size 26 (tmV tm0) :=
    (RowV.of_alloc w 26 (tmV tm0)).up (below_setCells (g := w.heap.size + 1) (tmV TM) 0 _ (belB (w.alloc (.cells (tmV tm0).toArray 26)) (.cells (tmV tm0).toArray 26)) (by simp))
  have hb2 := below_setCells (g := w.heap.size + 1) (tmV TM) 0 _ hb (by omega)
  have HSZM := Lib.hid (szT (T := TM) htl)
  rw [← hTM] at h1
  have HTM := Lib.hid hTM
  have HTH := Lib.hid hth
  have HR0 := Lib.hid h0
  have HR1 := Lib.hid h1
  have HB := Lib.hid hb2
  have HLL := Lib.hid hL
  have H12 := Lib.hid h12
  have HAA := Lib.hid hA
  have hLI : (L.length : Int) ≤ 12 := by omega
  clear hr0 hr1 hb hL h12 hA hTM htl hth h1 h0 hb2
  go_enter Tryd.func34, Tryd.ntmps34
  go_wp2_with (first | ((show wpList _ _ _ (⟨_, .build _ _, _, _, _, _⟩ :: _) _ _); refine wpList_built rfl 26 _ rfl (tmV TM).toArray [(0, .string nm), (1, .bool sy), (2, .int .i64 wo)] (by rw [List.map_toArray]; rfl) HBT.out ?_) | ((show wpList _ _ _ (⟨_, .store _ _ _, _, _, _, _⟩ :: _) _ _); refine wpList_store_mid rfl 26 _ _ rfl (w.heap.size + 1) 0 (tmV TM).toArray rfl rfl HTH.out HSZM.out (oneT TM) ?_))
  go_loopw [12] (fun iv wr => MaRel w nm sy wo iv wr) (fun iv _ => 12 - (intOf iv).toNat)
  case atStart => exact ⟨0, Nat.zero_le _, rfl, HR0.out, by have h := HR1.out; rw [HTM.out] at h; rw [HTM.out]; exact h, HB.out⟩
  case round =>
    clear HR0 HR1 HB HTH HBT HSZM
    obtain ⟨i, hi, rfl, h0, h1, hb⟩ := hrel
    have H0 := Lib.hid h0
    have H1 := Lib.hid h1
    have HB := Lib.hid hb
    clear h0 h1 hb
    by_cases hil : i < 12
    · have hilI : (i : Int) < 12 := by omega
      obtain ⟨c3, c4⟩ := part_cells (T := ⟨nm, sy, wo, onesP i⟩) H1.out (onesP_at hil)
      have e : wr.heap[w.heap.size + 1]? = some (.cells (tmV ⟨nm, sy, wo, onesP i⟩).toArray 26 (0, 0)) := H1.out
      have z3 : wr.frozen? ⟨w.heap.size + 1, 3 + i * 2, none⟩ = false := by unfold World.frozen?; simp only [e]; rfl
      have z4 : wr.frozen? ⟨w.heap.size + 1, 3 + i * 2 + 1, none⟩ = false := by unfold World.frozen?; simp only [e]; rfl
      clear e
      go_wp2
      refine ⟨⟨i + 1, by omega, by go_num, ?_, ?_, (HB.out.setCell (show w.heap.size ≤ w.heap.size + 1 by omega) _).setCell (show w.heap.size ≤ w.heap.size + 1 by omega) _⟩, by simp [intOf]; omega⟩
      · exact (setCell_heap (Nat.ne_of_lt (by omega))).trans ((setCell_heap (Nat.ne_of_lt (by omega))).trans H0.out)
      · have h := (H1.out.setCell (3 + i * 2) (.int .i64 0)).setCell (3 + i * 2 + 1) (.int .i64 1)
        rw [tmV_set (T := ⟨nm, sy, wo, onesP i⟩) 0 1 (onesP_at hil)] at h
        simp only [onesP_set hil] at h
        exact h
    · obtain rfl : i = 12 := by omega
      go_wp2
      go_loopw [13] (fun iv wr => MbRel w nm sy wo den L iv wr) (fun iv _ => L.length - (intOf iv).toNat)
      case atStart => exact ⟨0, Nat.zero_le _, rfl, H0.out, H1.out, HB.out⟩
      case round =>
        clear H0 H1 HB
        obtain ⟨j, hj, rfl, h0, h1, hb⟩ := hrel
        have H0 := Lib.hid h0
        have H1 := Lib.hid h1
        have HB := Lib.hid hb
        clear h0 h1 hb
        by_cases hjl : j < L.length
        · obtain ⟨x, hx⟩ : ∃ x, L[j]? = some x := ⟨L[j], List.getElem?_eq_getElem _⟩
          have hx12 := H12.out x (List.mem_of_getElem? hx)
          obtain ⟨g, rfl, hg, hc⟩ := HAA.out j x hx
          have hxI : (x : Int) < 12 := by omega
          have hc2 : wr.cell? ⟨g, j, none⟩ = some (.int .i64 (x : Int)) := by rw [HB.out.cell (p := ⟨g, j, none⟩) hg]; exact hc
          obtain ⟨⟨n0, d0⟩, hp⟩ : ∃ p, (narP den (L.take j))[x]? = some p := ⟨(narP den (L.take j))[x]'(by rw [narP_len]; exact hx12), List.getElem?_eq_getElem _⟩
          obtain ⟨c3, c4⟩ := part_cells (T := ⟨nm, sy, wo, narP den (L.take j)⟩) H1.out hp
          have e : wr.heap[w.heap.size + 1]? = some (.cells (tmV ⟨nm, sy, wo, narP den (L.take j)⟩).toArray 26 (0, 0)) := H1.out
          have z3 : wr.frozen? ⟨w.heap.size + 1, 3 + x * 2, none⟩ = false := by unfold World.frozen?; simp only [e]; rfl
          have z4 : wr.frozen? ⟨w.heap.size + 1, 3 + x * 2 + 1, none⟩ = false := by unfold World.frozen?; simp only [e]; rfl
          have hjI : (j : Int) < (L.length : Int) := by omega
          have HXX := Lib.hid hx
          have HPP := Lib.hid hp
          clear e hx hp hc
          go_wp2
          refine ⟨⟨j + 1, by omega, by go_num, ?_, ?_, (HB.out.setCell (show w.heap.size ≤ w.heap.size + 1 by omega) _).setCell (show w.heap.size ≤ w.heap.size + 1 by omega) _⟩, by simp [intOf]; omega⟩
          · exact (setCell_heap (Nat.ne_of_lt (by omega))).trans ((setCell_heap (Nat.ne_of_lt (by omega))).trans H0.out)
          · have h := (H1.out.setCell (3 + x * 2) (.int .i64 1)).setCell (3 + x * 2 + 1) (.int .i64 den)
            rw [tmV_set (T := ⟨nm, sy, wo, narP den (L.take j)⟩) 1 den HPP.out] at h
            simp only [← narP_take HXX.out] at h
            exact h
        · obtain rfl : j = L.length := by omega
          have h1 := H1.out
          rw [List.take_length] at h1
          obtain ⟨TF, hTF⟩ : ∃ TF : Tm, TF = ⟨nm, sy, wo, narP den L⟩ := ⟨_, rfl⟩
          have htl : TF.ps.length = 12 := by rw [hTF]; exact narP_len den L
          rw [← hTF] at h1
          have hsz := szT htl
          have hth : wr.there w.heap.size 0 (tmV TF).toArray.size := H0.out.there (by rw [List.size_toArray, tmV_len, tmV_len, htl]; decide)
          have hr4 := H0.out.setCells (tmV TF) 0 _ _ (by rw [tmV_len, tmV_len, htl]; decide)
          rw [tmV_put _ htl] at hr4
          have H1A := Lib.hid h1.all
          have HSZ := Lib.hid hsz
          have HTH := Lib.hid hth
          have HR4 := Lib.hid hr4
          have HTF := Lib.hid hTF
          clear h1 hsz hth hr4 H1 htl hTF
          go_wp2_with (first | ((show wpList _ _ _ (⟨_, .load _ _, _, _, _, _⟩ :: _) _ _); refine wpList_load_mid rfl 26 _ rfl (w.heap.size + 1) 0 rfl (tmV TF) _ H1A.out Tryd.underlying26 rfl HSZ.out ?_) | ((show wpList _ _ _ (⟨_, .store _ _ _, _, _, _, _⟩ :: _) _ _); refine wpList_store_mid rfl 26 _ _ rfl w.heap.size 0 (tmV TF).toArray rfl rfl HTH.out HSZ.out (oneT _) ?_))
          exact bodyPost_ret (v := .agg (tmV TF).toArray) (results_cell rfl rfl (run_loadVar_mid _ _ 0 _ _ _ HR4.out.all Tryd.underlying26 rfl HSZ.out)) rfl ⟨by rw [HTF.out], below_setCells _ _ _ HB.out (Nat.le_refl _)⟩
end Go.Proofs.YtlmcafcebidliaaDoor.Tp
namespace Go.Proofs.YtlmcafcebidliaaDoor.Tp
open Go.RowKit

/-! The reference's Standard at the seven names. -/
set_option maxRecDepth 100000 in
set_option maxHeartbeats 1000000 in
theorem rStandard0 (w : World) : Calls Tryd.prog 14 #[.string ⟨#[101, 113, 117, 97, 108]⟩] w fun e w' => e = .returned (.tuple #[.agg (tmV std0).toArray, .int .i64 0]) ∧ Below w.heap.size w w' := by
  have hz := zero26
  have hr0 : RowV ((w.alloc (.cells (tmV tm0).toArray 26)).alloc (.cells #[.int .i64 0, .int .i64 1, .int .i64 2, .int .i64 3, .int .i64 4, .int .i64 5, .int .i64 6, .int .i64 7, .int .i64 8, .int .i64 9, .int .i64 10] 3)) w.heap.size 26 (tmV tm0) := (RowV.of_alloc w 26 (tmV tm0)).alloc _
  have hb0 : Below w.heap.size w ((w.alloc (.cells (tmV tm0).toArray 26)).alloc (.cells #[.int .i64 0, .int .i64 1, .int .i64 2, .int .i64 3, .int .i64 4, .int .i64 5, .int .i64 6, .int .i64 7, .int .i64 8, .int .i64 9, .int .i64 10] 3)) := ((belB w _).alloc (by simp) _)
  have hw1 : RowI ((w.alloc (.cells (tmV tm0).toArray 26)).alloc (.cells #[.int .i64 0, .int .i64 1, .int .i64 2, .int .i64 3, .int .i64 4, .int .i64 5, .int .i64 6, .int .i64 7, .int .i64 8, .int .i64 9, .int .i64 10] 3)) (w.heap.size + 1) 3 [0, 1, 2, 3, 4, 5, 6, 7, 8, 9, 10] := by
    have h := RowI.of_alloc (w.alloc (.cells (tmV tm0).toArray 26)) 3 [0, 1, 2, 3, 4, 5, 6, 7, 8, 9, 10]
    rw [World.size_alloc] at h
    exact h
  have hn := made_any ⟨#[101, 113, 117, 97, 108]⟩ false 11 12 [0, 1, 2, 3, 4, 5, 6, 7, 8, 9, 10] (some ⟨w.heap.size + 1, 0, none⟩) 11 ((w.alloc (.cells (tmV tm0).toArray 26)).alloc (.cells #[.int .i64 0, .int .i64 1, .int .i64 2, .int .i64 3, .int .i64 4, .int .i64 5, .int .i64 6, .int .i64 7, .int .i64 8, .int .i64 9, .int .i64 10] 3)) (by decide) (by decide) (fun j x hx => ⟨w.heap.size + 1, rfl, hw1.lt, by
    refine hw1.cell (i := j) ?_
    have h2 : ([0, 1, 2, 3, 4, 5, 6, 7, 8, 9, 10].map (fun x : Nat => (x : Int)))[j]? = some (x : Int) := by rw [List.getElem?_map, hx]; rfl
    exact h2⟩)
  have e0 : (⟨⟨#[101, 113, 117, 97, 108]⟩, false, 11, narP 12 [0, 1, 2, 3, 4, 5, 6, 7, 8, 9, 10]⟩ : Tm) = std0 := rfl
  rw [e0] at hn
  have HN := Lib.hid hn
  have HR0 := Lib.hid hr0
  have HB0 := Lib.hid hb0
  have HSZ := Lib.hid (szT (T := std0) rfl)
  clear hw1
  clear hn hr0 hb0 e0
  go_enter Tryd.func14, Tryd.ntmps14
  go_wp2_with fail
  refine HN.out.mono ?_
  rintro e w1 ⟨he, hb1⟩
  subst he
  have hr := HR0.out.up hb1
  have hb := HB0.out.trans (hb1.mono HB0.out.size)
  have hth : w1.there w.heap.size 0 27 := hr.there (by rw [tmV_len]; exact Nat.le_refl _)
  have hr4 := hr.setCells (tmV std0) 0 _ _ (by rw [tmV_len, tmV_len]; exact Nat.le_refl _)
  have HTH := Lib.hid hth
  have HB := Lib.hid hb
  have HR4 : Hid (RowV (w1.setCells w.heap.size 0 (tmV std0)) w.heap.size 26 (tmV std0)) := Lib.hid hr4
  clear hr hb hb1 hth hr4 HN HR0 HB0
  go_wp2_with ((show wpList _ _ _ (⟨_, .store _ _ _, _, _, _, _⟩ :: _) _ _); refine wpList_store_mid rfl 26 _ _ rfl w.heap.size 0 (tmV std0).toArray rfl rfl HTH.out HSZ.out (oneT _) ?_)
  exact bodyPost_ret (v := .tuple #[.agg (tmV std0).toArray, .int .i64 0]) (results_cell_tmp (a := 2) (b := 3) rfl rfl (run_loadVar_mid _ _ 0 _ (tmV std0) _ HR4.out.all Tryd.underlying26 rfl HSZ.out)) rfl ⟨rfl, below_setCells _ _ _ HB.out (Nat.le_refl _)⟩
set_option maxRecDepth 100000 in
set_option maxHeartbeats 1000000 in
theorem rStandard1 (w : World) : Calls Tryd.prog 14 #[.string ⟨#[112, 121, 116, 104, 97, 103, 111, 114, 101, 97, 110]⟩] w fun e w' => e = .returned (.tuple #[.agg (tmV std1).toArray, .int .i64 0]) ∧ Below w.heap.size w w' := by
  have hz := zero26
  have hr0 : RowV (w.alloc (.cells (tmV tm0).toArray 26)) w.heap.size 26 (tmV tm0) := RowV.of_alloc w 26 (tmV tm0)
  have hb0 : Below w.heap.size w (w.alloc (.cells (tmV tm0).toArray 26)) := (belB w _)
  have hn := made_any ⟨#[112, 121, 116, 104, 97, 103, 111, 114, 101, 97, 110]⟩ false 8 1 [] none 0 (w.alloc (.cells (tmV tm0).toArray 26)) (by decide) (by decide) (fun j x hx => by cases hx)
  have e0 : (⟨⟨#[112, 121, 116, 104, 97, 103, 111, 114, 101, 97, 110]⟩, false, 8, narP 1 []⟩ : Tm) = std1 := rfl
  rw [e0] at hn
  have HN := Lib.hid hn
  have HR0 := Lib.hid hr0
  have HB0 := Lib.hid hb0
  have HSZ := Lib.hid (szT (T := std1) rfl)
  skip
  clear hn hr0 hb0 e0
  go_enter Tryd.func14, Tryd.ntmps14
  go_wp2_with fail
  refine HN.out.mono ?_
  rintro e w1 ⟨he, hb1⟩
  subst he
  have hr := HR0.out.up hb1
  have hb := HB0.out.trans (hb1.mono HB0.out.size)
  have hth : w1.there w.heap.size 0 27 := hr.there (by rw [tmV_len]; exact Nat.le_refl _)
  have hr4 := hr.setCells (tmV std1) 0 _ _ (by rw [tmV_len, tmV_len]; exact Nat.le_refl _)
  have HTH := Lib.hid hth
  have HB := Lib.hid hb
  have HR4 : Hid (RowV (w1.setCells w.heap.size 0 (tmV std1)) w.heap.size 26 (tmV std1)) := Lib.hid hr4
  clear hr hb hb1 hth hr4 HN HR0 HB0
  go_wp2_with ((show wpList _ _ _ (⟨_, .store _ _ _, _, _, _, _⟩ :: _) _ _); refine wpList_store_mid rfl 26 _ _ rfl w.heap.size 0 (tmV std1).toArray rfl rfl HTH.out HSZ.out (oneT _) ?_)
  exact bodyPost_ret (v := .tuple #[.agg (tmV std1).toArray, .int .i64 0]) (results_cell_tmp (a := 2) (b := 3) rfl rfl (run_loadVar_mid _ _ 0 _ (tmV std1) _ HR4.out.all Tryd.underlying26 rfl HSZ.out)) rfl ⟨rfl, below_setCells _ _ _ HB.out (Nat.le_refl _)⟩
set_option maxRecDepth 100000 in
set_option maxHeartbeats 1000000 in
theorem rStandard2 (w : World) : Calls Tryd.prog 14 #[.string ⟨#[109, 101, 97, 110, 116, 111, 110, 101]⟩] w fun e w' => e = .returned (.tuple #[.agg (tmV std2).toArray, .int .i64 0]) ∧ Below w.heap.size w w' := by
  have hz := zero26
  have hr0 : RowV ((w.alloc (.cells (tmV tm0).toArray 26)).alloc (.cells #[.int .i64 0, .int .i64 1, .int .i64 2, .int .i64 3, .int .i64 4, .int .i64 5, .int .i64 6, .int .i64 7, .int .i64 9, .int .i64 10, .int .i64 11] 3)) w.heap.size 26 (tmV tm0) := (RowV.of_alloc w 26 (tmV tm0)).alloc _
  have hb0 : Below w.heap.size w ((w.alloc (.cells (tmV tm0).toArray 26)).alloc (.cells #[.int .i64 0, .int .i64 1, .int .i64 2, .int .i64 3, .int .i64 4, .int .i64 5, .int .i64 6, .int .i64 7, .int .i64 9, .int .i64 10, .int .i64 11] 3)) := ((belB w _).alloc (by simp) _)
  have hw1 : RowI ((w.alloc (.cells (tmV tm0).toArray 26)).alloc (.cells #[.int .i64 0, .int .i64 1, .int .i64 2, .int .i64 3, .int .i64 4, .int .i64 5, .int .i64 6, .int .i64 7, .int .i64 9, .int .i64 10, .int .i64 11] 3)) (w.heap.size + 1) 3 [0, 1, 2, 3, 4, 5, 6, 7, 9, 10, 11] := by
    have h := RowI.of_alloc (w.alloc (.cells (tmV tm0).toArray 26)) 3 [0, 1, 2, 3, 4, 5, 6, 7, 9, 10, 11]
    rw [World.size_alloc] at h
    exact h
  have hn := made_any ⟨#[109, 101, 97, 110, 116, 111, 110, 101]⟩ true 8 4 [0, 1, 2, 3, 4, 5, 6, 7, 9, 10, 11] (some ⟨w.heap.size + 1, 0, none⟩) 11 ((w.alloc (.cells (tmV tm0).toArray 26)).alloc (.cells #[.int .i64 0, .int .i64 1, .int .i64 2, .int .i64 3, .int .i64 4, .int .i64 5, .int .i64 6, .int .i64 7, .int .i64 9, .int .i64 10, .int .i64 11] 3)) (by decide) (by decide) (fun j x hx => ⟨w.heap.size + 1, rfl, hw1.lt, by
    refine hw1.cell (i := j) ?_
    have h2 : ([0, 1, 2, 3, 4, 5, 6, 7, 9, 10, 11].map (fun x : Nat => (x : Int)))[j]? = some (x : Int) := by rw [List.getElem?_map, hx]; rfl
    exact h2⟩)
  have e0 : (⟨⟨#[109, 101, 97, 110, 116, 111, 110, 101]⟩, true, 8, narP 4 [0, 1, 2, 3, 4, 5, 6, 7, 9, 10, 11]⟩ : Tm) = std2 := rfl
  rw [e0] at hn
  have HN := Lib.hid hn
  have HR0 := Lib.hid hr0
  have HB0 := Lib.hid hb0
  have HSZ := Lib.hid (szT (T := std2) rfl)
  clear hw1
  clear hn hr0 hb0 e0
  go_enter Tryd.func14, Tryd.ntmps14
  go_wp2_with fail
  refine HN.out.mono ?_
  rintro e w1 ⟨he, hb1⟩
  subst he
  have hr := HR0.out.up hb1
  have hb := HB0.out.trans (hb1.mono HB0.out.size)
  have hth : w1.there w.heap.size 0 27 := hr.there (by rw [tmV_len]; exact Nat.le_refl _)
  have hr4 := hr.setCells (tmV std2) 0 _ _ (by rw [tmV_len, tmV_len]; exact Nat.le_refl _)
  have HTH := Lib.hid hth
  have HB := Lib.hid hb
  have HR4 : Hid (RowV (w1.setCells w.heap.size 0 (tmV std2)) w.heap.size 26 (tmV std2)) := Lib.hid hr4
  clear hr hb hb1 hth hr4 HN HR0 HB0
  go_wp2_with ((show wpList _ _ _ (⟨_, .store _ _ _, _, _, _, _⟩ :: _) _ _); refine wpList_store_mid rfl 26 _ _ rfl w.heap.size 0 (tmV std2).toArray rfl rfl HTH.out HSZ.out (oneT _) ?_)
  exact bodyPost_ret (v := .tuple #[.agg (tmV std2).toArray, .int .i64 0]) (results_cell_tmp (a := 2) (b := 3) rfl rfl (run_loadVar_mid _ _ 0 _ (tmV std2) _ HR4.out.all Tryd.underlying26 rfl HSZ.out)) rfl ⟨rfl, below_setCells _ _ _ HB.out (Nat.le_refl _)⟩
set_option maxRecDepth 100000 in
set_option maxHeartbeats 1000000 in
theorem rStandard3 (w : World) : Calls Tryd.prog 14 #[.string ⟨#[119, 101, 114, 99, 107, 109, 101, 105, 115, 116, 101, 114]⟩] w fun e w' => e = .returned (.tuple #[.agg (tmV std3).toArray, .int .i64 0]) ∧ Below w.heap.size w w' := by
  have hz := zero26
  have hr0 : RowV ((w.alloc (.cells (tmV tm0).toArray 26)).alloc (.cells #[.int .i64 0, .int .i64 1, .int .i64 2, .int .i64 5] 3)) w.heap.size 26 (tmV tm0) := (RowV.of_alloc w 26 (tmV tm0)).alloc _
  have hb0 : Below w.heap.size w ((w.alloc (.cells (tmV tm0).toArray 26)).alloc (.cells #[.int .i64 0, .int .i64 1, .int .i64 2, .int .i64 5] 3)) := ((belB w _).alloc (by simp) _)
  have hw1 : RowI ((w.alloc (.cells (tmV tm0).toArray 26)).alloc (.cells #[.int .i64 0, .int .i64 1, .int .i64 2, .int .i64 5] 3)) (w.heap.size + 1) 3 [0, 1, 2, 5] := by
    have h := RowI.of_alloc (w.alloc (.cells (tmV tm0).toArray 26)) 3 [0, 1, 2, 5]
    rw [World.size_alloc] at h
    exact h
  have hn := made_any ⟨#[119, 101, 114, 99, 107, 109, 101, 105, 115, 116, 101, 114]⟩ false 11 4 [0, 1, 2, 5] (some ⟨w.heap.size + 1, 0, none⟩) 4 ((w.alloc (.cells (tmV tm0).toArray 26)).alloc (.cells #[.int .i64 0, .int .i64 1, .int .i64 2, .int .i64 5] 3)) (by decide) (by decide) (fun j x hx => ⟨w.heap.size + 1, rfl, hw1.lt, by
    refine hw1.cell (i := j) ?_
    have h2 : ([0, 1, 2, 5].map (fun x : Nat => (x : Int)))[j]? = some (x : Int) := by rw [List.getElem?_map, hx]; rfl
    exact h2⟩)
  have e0 : (⟨⟨#[119, 101, 114, 99, 107, 109, 101, 105, 115, 116, 101, 114]⟩, false, 11, narP 4 [0, 1, 2, 5]⟩ : Tm) = std3 := rfl
  rw [e0] at hn
  have HN := Lib.hid hn
  have HR0 := Lib.hid hr0
  have HB0 := Lib.hid hb0
  have HSZ := Lib.hid (szT (T := std3) rfl)
  clear hw1
  clear hn hr0 hb0 e0
  go_enter Tryd.func14, Tryd.ntmps14
  go_wp2_with fail
  refine HN.out.mono ?_
  rintro e w1 ⟨he, hb1⟩
  subst he
  have hr := HR0.out.up hb1
  have hb := HB0.out.trans (hb1.mono HB0.out.size)
  have hth : w1.there w.heap.size 0 27 := hr.there (by rw [tmV_len]; exact Nat.le_refl _)
  have hr4 := hr.setCells (tmV std3) 0 _ _ (by rw [tmV_len, tmV_len]; exact Nat.le_refl _)
  have HTH := Lib.hid hth
  have HB := Lib.hid hb
  have HR4 : Hid (RowV (w1.setCells w.heap.size 0 (tmV std3)) w.heap.size 26 (tmV std3)) := Lib.hid hr4
  clear hr hb hb1 hth hr4 HN HR0 HB0
  go_wp2_with ((show wpList _ _ _ (⟨_, .store _ _ _, _, _, _, _⟩ :: _) _ _); refine wpList_store_mid rfl 26 _ _ rfl w.heap.size 0 (tmV std3).toArray rfl rfl HTH.out HSZ.out (oneT _) ?_)
  exact bodyPost_ret (v := .tuple #[.agg (tmV std3).toArray, .int .i64 0]) (results_cell_tmp (a := 2) (b := 3) rfl rfl (run_loadVar_mid _ _ 0 _ (tmV std3) _ HR4.out.all Tryd.underlying26 rfl HSZ.out)) rfl ⟨rfl, below_setCells _ _ _ HB.out (Nat.le_refl _)⟩
set_option maxRecDepth 100000 in
set_option maxHeartbeats 1000000 in
theorem rStandard4 (w : World) : Calls Tryd.prog 14 #[.string ⟨#[107, 105, 114, 110, 98, 101, 114, 103, 101, 114]⟩] w fun e w' => e = .returned (.tuple #[.agg (tmV std4).toArray, .int .i64 0]) ∧ Below w.heap.size w w' := by
  have hz := zero26
  have hr0 : RowV ((w.alloc (.cells (tmV tm0).toArray 26)).alloc (.cells #[.int .i64 0, .int .i64 1, .int .i64 2, .int .i64 3] 3)) w.heap.size 26 (tmV tm0) := (RowV.of_alloc w 26 (tmV tm0)).alloc _
  have hb0 : Below w.heap.size w ((w.alloc (.cells (tmV tm0).toArray 26)).alloc (.cells #[.int .i64 0, .int .i64 1, .int .i64 2, .int .i64 3] 3)) := ((belB w _).alloc (by simp) _)
  have hw1 : RowI ((w.alloc (.cells (tmV tm0).toArray 26)).alloc (.cells #[.int .i64 0, .int .i64 1, .int .i64 2, .int .i64 3] 3)) (w.heap.size + 1) 3 [0, 1, 2, 3] := by
    have h := RowI.of_alloc (w.alloc (.cells (tmV tm0).toArray 26)) 3 [0, 1, 2, 3]
    rw [World.size_alloc] at h
    exact h
  have hn := made_any ⟨#[107, 105, 114, 110, 98, 101, 114, 103, 101, 114]⟩ true 6 4 [0, 1, 2, 3] (some ⟨w.heap.size + 1, 0, none⟩) 4 ((w.alloc (.cells (tmV tm0).toArray 26)).alloc (.cells #[.int .i64 0, .int .i64 1, .int .i64 2, .int .i64 3] 3)) (by decide) (by decide) (fun j x hx => ⟨w.heap.size + 1, rfl, hw1.lt, by
    refine hw1.cell (i := j) ?_
    have h2 : ([0, 1, 2, 3].map (fun x : Nat => (x : Int)))[j]? = some (x : Int) := by rw [List.getElem?_map, hx]; rfl
    exact h2⟩)
  have e0 : (⟨⟨#[107, 105, 114, 110, 98, 101, 114, 103, 101, 114]⟩, true, 6, narP 4 [0, 1, 2, 3]⟩ : Tm) = std4 := rfl
  rw [e0] at hn
  have HN := Lib.hid hn
  have HR0 := Lib.hid hr0
  have HB0 := Lib.hid hb0
  have HSZ := Lib.hid (szT (T := std4) rfl)
  clear hw1
  clear hn hr0 hb0 e0
  go_enter Tryd.func14, Tryd.ntmps14
  go_wp2_with fail
  refine HN.out.mono ?_
  rintro e w1 ⟨he, hb1⟩
  subst he
  have hr := HR0.out.up hb1
  have hb := HB0.out.trans (hb1.mono HB0.out.size)
  have hth : w1.there w.heap.size 0 27 := hr.there (by rw [tmV_len]; exact Nat.le_refl _)
  have hr4 := hr.setCells (tmV std4) 0 _ _ (by rw [tmV_len, tmV_len]; exact Nat.le_refl _)
  have HTH := Lib.hid hth
  have HB := Lib.hid hb
  have HR4 : Hid (RowV (w1.setCells w.heap.size 0 (tmV std4)) w.heap.size 26 (tmV std4)) := Lib.hid hr4
  clear hr hb hb1 hth hr4 HN HR0 HB0
  go_wp2_with ((show wpList _ _ _ (⟨_, .store _ _ _, _, _, _, _⟩ :: _) _ _); refine wpList_store_mid rfl 26 _ _ rfl w.heap.size 0 (tmV std4).toArray rfl rfl HTH.out HSZ.out (oneT _) ?_)
  exact bodyPost_ret (v := .tuple #[.agg (tmV std4).toArray, .int .i64 0]) (results_cell_tmp (a := 2) (b := 3) rfl rfl (run_loadVar_mid _ _ 0 _ (tmV std4) _ HR4.out.all Tryd.underlying26 rfl HSZ.out)) rfl ⟨rfl, below_setCells _ _ _ HB.out (Nat.le_refl _)⟩
set_option maxRecDepth 100000 in
set_option maxHeartbeats 1000000 in
theorem rStandard5 (w : World) : Calls Tryd.prog 14 #[.string ⟨#[118, 97, 108, 108, 111, 116, 116, 105]⟩] w fun e w' => e = .returned (.tuple #[.agg (tmV std5).toArray, .int .i64 0]) ∧ Below w.heap.size w w' := by
  have hz := zero26
  have hr0 : RowV ((w.alloc (.cells (tmV tm0).toArray 26)).alloc (.cells #[.int .i64 0, .int .i64 1, .int .i64 2, .int .i64 3, .int .i64 4, .int .i64 11] 3)) w.heap.size 26 (tmV tm0) := (RowV.of_alloc w 26 (tmV tm0)).alloc _
  have hb0 : Below w.heap.size w ((w.alloc (.cells (tmV tm0).toArray 26)).alloc (.cells #[.int .i64 0, .int .i64 1, .int .i64 2, .int .i64 3, .int .i64 4, .int .i64 11] 3)) := ((belB w _).alloc (by simp) _)
  have hw1 : RowI ((w.alloc (.cells (tmV tm0).toArray 26)).alloc (.cells #[.int .i64 0, .int .i64 1, .int .i64 2, .int .i64 3, .int .i64 4, .int .i64 11] 3)) (w.heap.size + 1) 3 [0, 1, 2, 3, 4, 11] := by
    have h := RowI.of_alloc (w.alloc (.cells (tmV tm0).toArray 26)) 3 [0, 1, 2, 3, 4, 11]
    rw [World.size_alloc] at h
    exact h
  have hn := made_any ⟨#[118, 97, 108, 108, 111, 116, 116, 105]⟩ false 6 6 [0, 1, 2, 3, 4, 11] (some ⟨w.heap.size + 1, 0, none⟩) 6 ((w.alloc (.cells (tmV tm0).toArray 26)).alloc (.cells #[.int .i64 0, .int .i64 1, .int .i64 2, .int .i64 3, .int .i64 4, .int .i64 11] 3)) (by decide) (by decide) (fun j x hx => ⟨w.heap.size + 1, rfl, hw1.lt, by
    refine hw1.cell (i := j) ?_
    have h2 : ([0, 1, 2, 3, 4, 11].map (fun x : Nat => (x : Int)))[j]? = some (x : Int) := by rw [List.getElem?_map, hx]; rfl
    exact h2⟩)
  have e0 : (⟨⟨#[118, 97, 108, 108, 111, 116, 116, 105]⟩, false, 6, narP 6 [0, 1, 2, 3, 4, 11]⟩ : Tm) = std5 := rfl
  rw [e0] at hn
  have HN := Lib.hid hn
  have HR0 := Lib.hid hr0
  have HB0 := Lib.hid hb0
  have HSZ := Lib.hid (szT (T := std5) rfl)
  clear hw1
  clear hn hr0 hb0 e0
  go_enter Tryd.func14, Tryd.ntmps14
  go_wp2_with fail
  refine HN.out.mono ?_
  rintro e w1 ⟨he, hb1⟩
  subst he
  have hr := HR0.out.up hb1
  have hb := HB0.out.trans (hb1.mono HB0.out.size)
  have hth : w1.there w.heap.size 0 27 := hr.there (by rw [tmV_len]; exact Nat.le_refl _)
  have hr4 := hr.setCells (tmV std5) 0 _ _ (by rw [tmV_len, tmV_len]; exact Nat.le_refl _)
  have HTH := Lib.hid hth
  have HB := Lib.hid hb
  have HR4 : Hid (RowV (w1.setCells w.heap.size 0 (tmV std5)) w.heap.size 26 (tmV std5)) := Lib.hid hr4
  clear hr hb hb1 hth hr4 HN HR0 HB0
  go_wp2_with ((show wpList _ _ _ (⟨_, .store _ _ _, _, _, _, _⟩ :: _) _ _); refine wpList_store_mid rfl 26 _ _ rfl w.heap.size 0 (tmV std5).toArray rfl rfl HTH.out HSZ.out (oneT _) ?_)
  exact bodyPost_ret (v := .tuple #[.agg (tmV std5).toArray, .int .i64 0]) (results_cell_tmp (a := 2) (b := 3) rfl rfl (run_loadVar_mid _ _ 0 _ (tmV std5) _ HR4.out.all Tryd.underlying26 rfl HSZ.out)) rfl ⟨rfl, below_setCells _ _ _ HB.out (Nat.le_refl _)⟩
set_option maxRecDepth 100000 in
set_option maxHeartbeats 1000000 in
theorem rStandard6 (w : World) : Calls Tryd.prog 14 #[.string ⟨#[121, 111, 117, 110, 103]⟩] w fun e w' => e = .returned (.tuple #[.agg (tmV std6).toArray, .int .i64 0]) ∧ Below w.heap.size w w' := by
  have hz := zero26
  have hr0 : RowV ((w.alloc (.cells (tmV tm0).toArray 26)).alloc (.cells #[.int .i64 0, .int .i64 1, .int .i64 2, .int .i64 3, .int .i64 4, .int .i64 5] 3)) w.heap.size 26 (tmV tm0) := (RowV.of_alloc w 26 (tmV tm0)).alloc _
  have hb0 : Below w.heap.size w ((w.alloc (.cells (tmV tm0).toArray 26)).alloc (.cells #[.int .i64 0, .int .i64 1, .int .i64 2, .int .i64 3, .int .i64 4, .int .i64 5] 3)) := ((belB w _).alloc (by simp) _)
  have hw1 : RowI ((w.alloc (.cells (tmV tm0).toArray 26)).alloc (.cells #[.int .i64 0, .int .i64 1, .int .i64 2, .int .i64 3, .int .i64 4, .int .i64 5] 3)) (w.heap.size + 1) 3 [0, 1, 2, 3, 4, 5] := by
    have h := RowI.of_alloc (w.alloc (.cells (tmV tm0).toArray 26)) 3 [0, 1, 2, 3, 4, 5]
    rw [World.size_alloc] at h
    exact h
  have hn := made_any ⟨#[121, 111, 117, 110, 103]⟩ false 11 6 [0, 1, 2, 3, 4, 5] (some ⟨w.heap.size + 1, 0, none⟩) 6 ((w.alloc (.cells (tmV tm0).toArray 26)).alloc (.cells #[.int .i64 0, .int .i64 1, .int .i64 2, .int .i64 3, .int .i64 4, .int .i64 5] 3)) (by decide) (by decide) (fun j x hx => ⟨w.heap.size + 1, rfl, hw1.lt, by
    refine hw1.cell (i := j) ?_
    have h2 : ([0, 1, 2, 3, 4, 5].map (fun x : Nat => (x : Int)))[j]? = some (x : Int) := by rw [List.getElem?_map, hx]; rfl
    exact h2⟩)
  have e0 : (⟨⟨#[121, 111, 117, 110, 103]⟩, false, 11, narP 6 [0, 1, 2, 3, 4, 5]⟩ : Tm) = std6 := rfl
  rw [e0] at hn
  have HN := Lib.hid hn
  have HR0 := Lib.hid hr0
  have HB0 := Lib.hid hb0
  have HSZ := Lib.hid (szT (T := std6) rfl)
  clear hw1
  clear hn hr0 hb0 e0
  go_enter Tryd.func14, Tryd.ntmps14
  go_wp2_with fail
  refine HN.out.mono ?_
  rintro e w1 ⟨he, hb1⟩
  subst he
  have hr := HR0.out.up hb1
  have hb := HB0.out.trans (hb1.mono HB0.out.size)
  have hth : w1.there w.heap.size 0 27 := hr.there (by rw [tmV_len]; exact Nat.le_refl _)
  have hr4 := hr.setCells (tmV std6) 0 _ _ (by rw [tmV_len, tmV_len]; exact Nat.le_refl _)
  have HTH := Lib.hid hth
  have HB := Lib.hid hb
  have HR4 : Hid (RowV (w1.setCells w.heap.size 0 (tmV std6)) w.heap.size 26 (tmV std6)) := Lib.hid hr4
  clear hr hb hb1 hth hr4 HN HR0 HB0
  go_wp2_with ((show wpList _ _ _ (⟨_, .store _ _ _, _, _, _, _⟩ :: _) _ _); refine wpList_store_mid rfl 26 _ _ rfl w.heap.size 0 (tmV std6).toArray rfl rfl HTH.out HSZ.out (oneT _) ?_)
  exact bodyPost_ret (v := .tuple #[.agg (tmV std6).toArray, .int .i64 0]) (results_cell_tmp (a := 2) (b := 3) rfl rfl (run_loadVar_mid _ _ 0 _ (tmV std6) _ HR4.out.all Tryd.underlying26 rfl HSZ.out)) rfl ⟨rfl, below_setCells _ _ _ HB.out (Nat.le_refl _)⟩
end Go.Proofs.YtlmcafcebidliaaDoor.Tp
namespace Go.Proofs.YtlmcafcebidliaaDoor.Tp
open Go.RowKit

/-! Standard at another name. -/
theorem ne_list {a : ByteArray} {l : List UInt8} (h : ¬ a = ⟨l.toArray⟩) : (a.toList == l) = false := by
  rw [beq_eq_false_iff_ne]
  intro e
  rw [ByteArray.toList_eq] at e
  exact h (Go.WideShapes.bytes_inj (e.trans (by simp)))
set_option maxRecDepth 100000 in
set_option maxHeartbeats 1000000 in
theorem StandardN (s : ByteArray) (n0 : ¬ s = ⟨#[101, 113, 117, 97, 108]⟩) (n1 : ¬ s = ⟨#[112, 121, 116, 104, 97, 103, 111, 114, 101, 97, 110]⟩) (n2 : ¬ s = ⟨#[109, 101, 97, 110, 116, 111, 110, 101]⟩) (n3 : ¬ s = ⟨#[119, 101, 114, 99, 107, 109, 101, 105, 115, 116, 101, 114]⟩) (n4 : ¬ s = ⟨#[107, 105, 114, 110, 98, 101, 114, 103, 101, 114]⟩) (n5 : ¬ s = ⟨#[118, 97, 108, 108, 111, 116, 116, 105]⟩) (n6 : ¬ s = ⟨#[121, 111, 117, 110, 103]⟩) (w : World) : Calls Tryd.prog 13 #[.string s] w fun e w' => e = .returned (.tuple #[.agg (tmV tm0).toArray, .int .i64 4]) ∧ Below w.heap.size w w' := by
  have hz := zero26
  have hr0 := RowV.of_alloc w 26 (tmV tm0)
  have hth : (w.alloc (.cells (tmV tm0).toArray 26)).there w.heap.size 0 (tmV tm0).toArray.size := hr0.there (by decide)
  have hr4 := hr0.setCells (tmV tm0) 0 _ _ (by decide)
  rw [tmV_put tm0 rfl] at hr4
  have HTH := Lib.hid hth
  have HR4 := Lib.hid hr4
  have HB := Lib.hid (belB w (.cells (tmV tm0).toArray 26))
  have HSZ := Lib.hid (szT (T := tm0) rfl)
  have HBT : Hid (Tryd.prog.built 26 [] = some (tmV tm0).toArray) := Lib.hid (by kernel_rfl)
  clear hr0 hth hr4
  have f0 : (s.toList == [101, 113, 117, 97, 108]) = false := ne_list n0
  have f1 : (s.toList == [112, 121, 116, 104, 97, 103, 111, 114, 101, 97, 110]) = false := ne_list n1
  have f2 : (s.toList == [109, 101, 97, 110, 116, 111, 110, 101]) = false := ne_list n2
  have f3 : (s.toList == [119, 101, 114, 99, 107, 109, 101, 105, 115, 116, 101, 114]) = false := ne_list n3
  have f4 : (s.toList == [107, 105, 114, 110, 98, 101, 114, 103, 101, 114]) = false := ne_list n4
  have f5 : (s.toList == [118, 97, 108, 108, 111, 116, 116, 105]) = false := ne_list n5
  have f6 : (s.toList == [121, 111, 117, 110, 103]) = false := ne_list n6
  clear n0 n1 n2 n3 n4 n5 n6
  go_enter Tryd.func13, Tryd.ntmps13
  go_wp2_with (first | ((show wpList _ _ _ (⟨_, .build _ _, _, _, _, _⟩ :: _) _ _); refine wpList_built rfl 26 _ rfl (tmV tm0).toArray [] rfl HBT.out ?_) | ((show wpList _ _ _ (⟨_, .store _ _ _, _, _, _, _⟩ :: _) _ _); refine wpList_store_mid rfl 26 _ _ rfl w.heap.size 0 (tmV tm0).toArray rfl rfl HTH.out HSZ.out (oneT _) ?_))
  exact bodyPost_ret (v := .tuple #[.agg (tmV tm0).toArray, .int .i64 4]) (results_cell_tmp (a := 2) (b := 3) rfl rfl (run_loadVar_mid _ _ 0 _ (tmV tm0) _ HR4.out.all Tryd.underlying26 rfl HSZ.out)) rfl ⟨rfl, below_setCells _ _ _ HB.out (Nat.le_refl _)⟩
set_option maxRecDepth 100000 in
set_option maxHeartbeats 1000000 in
theorem rStandardN (s : ByteArray) (n0 : ¬ s = ⟨#[101, 113, 117, 97, 108]⟩) (n1 : ¬ s = ⟨#[112, 121, 116, 104, 97, 103, 111, 114, 101, 97, 110]⟩) (n2 : ¬ s = ⟨#[109, 101, 97, 110, 116, 111, 110, 101]⟩) (n3 : ¬ s = ⟨#[119, 101, 114, 99, 107, 109, 101, 105, 115, 116, 101, 114]⟩) (n4 : ¬ s = ⟨#[107, 105, 114, 110, 98, 101, 114, 103, 101, 114]⟩) (n5 : ¬ s = ⟨#[118, 97, 108, 108, 111, 116, 116, 105]⟩) (n6 : ¬ s = ⟨#[121, 111, 117, 110, 103]⟩) (w : World) : Calls Tryd.prog 14 #[.string s] w fun e w' => e = .returned (.tuple #[.agg (tmV tm0).toArray, .int .i64 4]) ∧ Below w.heap.size w w' := by
  have hz := zero26
  have hr0 := RowV.of_alloc w 26 (tmV tm0)
  have hth : (w.alloc (.cells (tmV tm0).toArray 26)).there w.heap.size 0 (tmV tm0).toArray.size := hr0.there (by decide)
  have hr4 := hr0.setCells (tmV tm0) 0 _ _ (by decide)
  rw [tmV_put tm0 rfl] at hr4
  have HTH := Lib.hid hth
  have HR4 := Lib.hid hr4
  have HB := Lib.hid (belB w (.cells (tmV tm0).toArray 26))
  have HSZ := Lib.hid (szT (T := tm0) rfl)
  have HBT : Hid (Tryd.prog.built 26 [] = some (tmV tm0).toArray) := Lib.hid (by kernel_rfl)
  clear hr0 hth hr4
  have f0 : (s.toList == [101, 113, 117, 97, 108]) = false := ne_list n0
  have f1 : (s.toList == [112, 121, 116, 104, 97, 103, 111, 114, 101, 97, 110]) = false := ne_list n1
  have f2 : (s.toList == [109, 101, 97, 110, 116, 111, 110, 101]) = false := ne_list n2
  have f3 : (s.toList == [119, 101, 114, 99, 107, 109, 101, 105, 115, 116, 101, 114]) = false := ne_list n3
  have f4 : (s.toList == [107, 105, 114, 110, 98, 101, 114, 103, 101, 114]) = false := ne_list n4
  have f5 : (s.toList == [118, 97, 108, 108, 111, 116, 116, 105]) = false := ne_list n5
  have f6 : (s.toList == [121, 111, 117, 110, 103]) = false := ne_list n6
  clear n0 n1 n2 n3 n4 n5 n6
  go_enter Tryd.func14, Tryd.ntmps14
  go_wp2_with (first | ((show wpList _ _ _ (⟨_, .build _ _, _, _, _, _⟩ :: _) _ _); refine wpList_built rfl 26 _ rfl (tmV tm0).toArray [] rfl HBT.out ?_) | ((show wpList _ _ _ (⟨_, .store _ _ _, _, _, _, _⟩ :: _) _ _); refine wpList_store_mid rfl 26 _ _ rfl w.heap.size 0 (tmV tm0).toArray rfl rfl HTH.out HSZ.out (oneT _) ?_))
  exact bodyPost_ret (v := .tuple #[.agg (tmV tm0).toArray, .int .i64 4]) (results_cell_tmp (a := 2) (b := 3) rfl rfl (run_loadVar_mid _ _ 0 _ (tmV tm0) _ HR4.out.all Tryd.underlying26 rfl HSZ.out)) rfl ⟨rfl, below_setCells _ _ _ HB.out (Nat.le_refl _)⟩
end Go.Proofs.YtlmcafcebidliaaDoor.Tp
