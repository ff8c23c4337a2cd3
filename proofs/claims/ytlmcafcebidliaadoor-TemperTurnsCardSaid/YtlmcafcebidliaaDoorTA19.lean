import Derived.Test.YtlmcafcebidliaaDoorTPC
import Derived.Test.YtlmcafcebidliaaDoorTAE
namespace Go.Proofs.YtlmcafcebidliaaDoor.Tp
open Go.RowKit

/-! Between of a valid temperament. -/
def BetP (w : World) (T : Tm) (D : Int) (wn i j : Nat) (e : Ending) (w' : World) : Prop := ∃ r, BetIs D (fN T D) wn i j r ∧ e = .returned (.tuple #[cR r, .int .i64 0]) ∧ Below w.heap.size w w'
set_option maxRecDepth 100000 in
set_option maxHeartbeats 1000000 in
theorem Between_ok (T : Tm) (D : Int) (wn c1 c2 : Nat) (w : World) (hp : PrL w) (hl : T.ps.length = 12) (hs : T.nm.size ≤ maxLen) (hk : chkT T = 0) (hv : Vd T D wn) (h1 : c1 < 12) (h2 : c2 < 12) : Calls Tryd.prog 22 #[.agg (tmV T).toArray, .int .i64 (c1 : Int), .int .i64 (c2 : Int)] w (BetP w T D wn (7 * c1 % 12) (7 * c2 % 12)) := by
  have hr0 := (RowV.of_alloc w 26 (tmV T)).alloc (.cells #[.int .i64 0, .int .i64 0, .int .i64 0, .int .i64 0, .int .i64 0, .int .i64 0, .int .i64 0] 40)
  have hr1 : RowV ((w.alloc (.cells (tmV T).toArray 26)).alloc (.cells #[.int .i64 0, .int .i64 0, .int .i64 0, .int .i64 0, .int .i64 0, .int .i64 0, .int .i64 0] 40)) (w.heap.size + 1) 40 (cellsR Rt.zero) := by
    have h := RowV.of_alloc (w.alloc (.cells (tmV T).toArray 26)) 40 (cellsR Rt.zero)
    rw [World.size_alloc] at h
    exact h
  have hb := (belB w (.cells (tmV T).toArray 26)).alloc (by simp) (.cells #[.int .i64 0, .int .i64 0, .int .i64 0, .int .i64 0, .int .i64 0, .int .i64 0, .int .i64 0] 40)
  have HR0 := Lib.hid hr0
  have HR1 := Lib.hid hr1
  have HB := Lib.hid hb
  have HI2 := Lib.hid (szT hl)
  have hck := fun W => Check_any T W hl hs
  rw [hk] at hck
  have hcl1 := fun W => isClass_any (c1 : Int) W
  have hcl2 := fun W => isClass_any (c2 : Int) W
  have e1 : clB (c1 : Int) = true := by unfold clB; rw [decide_eq_true (by omega), decide_eq_true (by omega)]; rfl
  have e2 : clB (c2 : Int) = true := by unfold clB; rw [decide_eq_true (by omega), decide_eq_true (by omega)]; rfl
  rw [e1] at hcl1
  rw [e2] at hcl2
  have HCL1 := Lib.hid hcl1
  have HCL2 := Lib.hid hcl2
  have HCK := Lib.hid hck
  have HNO := Lib.hid (fun W (h : PrL W) => notesOf_any T D wn W h hl hv)
  have HC := Lib.hid hv.circ
  have HP := Lib.hid hp
  clear hp hl hs hk hv hck e1 e2 hcl1 hcl2 hr0 hr1 hb
  go_enter Tryd.func22, Tryd.ntmps22
  go_wp2_with ((show wpList _ _ _ (⟨_, .load _ _, _, _, _, _⟩ :: _) _ _); refine wpList_load_mid rfl 26 _ rfl w.heap.size 0 rfl (tmV T) _ HR0.out.all Tryd.underlying26 rfl HI2.out ?_)
  refine (HCK.out _).mono ?_
  rintro e w1 ⟨he, hb1⟩
  subst he
  have A0 := Lib.hid (HR0.out.up (hb1.mono (by simp)))
  have A1 := Lib.hid (HR1.out.up (hb1.mono (by simp)))
  have AB := Lib.hid (HB.out.trans (hb1.mono (by simp; omega)))
  have hg1 := A1.out.lt
  clear hb1 HR0 HR1 HB HCK
  go_wp2_with fail
  refine (HCL1.out _).mono ?_
  rintro e w2 ⟨he, hw⟩
  subst he
  subst hw
  go_wp2_with fail
  refine (HCL2.out _).mono ?_
  rintro e w2 ⟨he, hw⟩
  subst he
  subst hw
  go_wp2_with ((show wpList _ _ _ (⟨_, .load _ _, _, _, _, _⟩ :: _) _ _); refine wpList_load_mid rfl 26 _ rfl w.heap.size 0 rfl (tmV T) _ A0.out.all Tryd.underlying26 rfl HI2.out ?_)
  refine (HNO.out _ (HP.out.below AB.out)).mono ?_
  rintro e w3 ⟨N, hN, he, hb3⟩
  subst he
  have B1 := Lib.hid (A1.out.up hb3)
  have BB := Lib.hid (AB.out.trans (hb3.mono AB.out.size))
  obtain ⟨a, ha, na⟩ := hN.at (c := c1) h1
  obtain ⟨b, hb, nb⟩ := hN.at (c := c2) h2
  have HBT := Lib.hid (fun W (h : PrL W) => between_any N c1 c2 a b W h hN.1 ha hb)
  have NA := Lib.hid na
  have NB := Lib.hid nb
  clear hb3 hN ha hb na nb A0 A1 AB HNO
  go_wp2_with fail
  refine (HBT.out _ (HP.out.below BB.out)).mono ?_
  rintro e w4 ⟨r, hf, he, hb4⟩
  subst he
  have hbt := bet_of HC.out (by omega) (by omega) NA.out NB.out hf
  have hc1 := B1.out.up hb4
  have hth : w4.there (w.heap.size + 1) 0 (cellsR r).toArray.size := hc1.there (by show 0 + 7 ≤ 7; omega)
  have hr4 := hc1.setCells (cellsR r) 0 _ _ (by show 0 + 7 ≤ 7; omega)
  have TH := Lib.hid hth
  have HR4 : Hid (RowV (w4.setCells (w.heap.size + 1) 0 (cellsR r)) (w.heap.size + 1) 40 (cellsR r)) := Lib.hid hr4
  have CB := Lib.hid (BB.out.trans (hb4.mono BB.out.size))
  have HBI := Lib.hid hbt
  clear hf hbt hc1 hth hr4 hb4 B1 BB HBT NA NB HC
  go_wp2_with ((show wpList _ _ _ (⟨_, .store _ _ _, _, _, _, _⟩ :: _) _ _); refine wpList_store_mid rfl 40 _ _ rfl (w.heap.size + 1) 0 (cellsR r).toArray rfl rfl TH.out (szR r) (oneR r) ?_)
  exact bodyPost_ret (v := .tuple #[cR r, .int .i64 0]) (results_cell_tmp (a := 6) (b := 7) rfl rfl (run_loadVar_mid _ _ 0 _ (cellsR r) _ HR4.out.all Tryd.underlying40 rfl (szR r))) rfl ⟨r, HBI.out, rfl, below_setCells _ _ _ CB.out (by omega)⟩
end Go.Proofs.YtlmcafcebidliaaDoor.Tp
