import Derived.Test.YtkoghdgfllichaaDoorPBE
import Derived.Test.YtkoghdgfllichaaDoorPBD
namespace Go.Proofs.YtkoghdgfllichaaDoor.Pc
open Go.RowKit Tp

/-! The law on wavelength times frequency, walked. -/
set_option maxRecDepth 100000 in
set_option maxHeartbeats 8000000 in
theorem lawFits_any (a t0 t : Int) (T : Tm) (n x : Int) (w : World) (hp : PrL w) (hl : T.ps.length = 12) (hs : T.nm.size ≤ maxLen) : Calls Tryd.prog 6 #[.agg (csV a t0 t T).toArray, .int .i64 n, .int .i64 x] w fun e w' => e = .returned (.bool true) ∧ Below w.heap.size w w' := by
  have HSN := Lib.hid (fun n W => sound_any a t0 t T n W hl hs)
  have HP := Lib.hid hp
  have HI3 := Lib.hid (szCs (a := a) (t0 := t0) (t := t) hl)
  have HI2 := Lib.hid (szT hl)
  have HB := Lib.hid (belB w (.cells (csV a t0 t T).toArray 52))
  have HR := Lib.hid (RowV.of_alloc w 52 (csV a t0 t T))
  have HF0 := Lib.hid (fun (A k : Nat) W (h : PrL W) (hst : stdE (A : Int) t0 t0 = 0) (hk : chkT T = 0) (D : Int) (wn : Nat) (hv : Vd T D wn) (hk2 : k ≤ 139) => Freq_ok A t0 t0 T D wn k W h hst hl hs hk hv hk2)
  have HW0 := Lib.hid (fun (A k : Nat) W (h : PrL W) (hst : stdE (A : Int) t0 t0 = 0) (hk : chkT T = 0) (D : Int) (wn : Nat) (hv : Vd T D wn) (hk2 : k ≤ 139) => Wave_ok A t0 t0 T D wn k W h hst hl hs hk hv hk2)
  have HVD := Lib.hid (fun (h : chkT T = 0) => chk_vd (T := T) hl h)
  have hcs : csV a t0 t T = .int .i64 a :: .int .i64 t0 :: .int .i64 t :: tmV T := rfl
  clear hp hl hs
  generalize chkT T = C at *
  obtain ⟨CS, hCS⟩ : ∃ CS, CS = csV a t0 t T := ⟨_, rfl⟩
  rw [← hCS] at HSN HI3 HB HR hcs ⊢
  have HCS := Lib.hid hcs
  clear hcs hCS
  generalize hL : tmV T = L at *
  go_enter Tryd.func6, Tryd.ntmps6
  go_wp2_with ((show wpList _ _ _ (⟨_, .load _ _, _, _, _, _⟩ :: _) _ _); refine wpList_load_midw (by rfl) 52 _ rfl w.heap.size 0 rfl CS _ HR.out.all Tryd.underlying52 rfl HI3.out ?_)
  refine (HSN.out n _).mono ?_
  rintro e w1 ⟨⟨b1, he, hs1⟩, hb1⟩
  subst he
  have HR1 := Lib.hid (HR.out.up hb1)
  have HB1 := Lib.hid (HB.out.trans (hb1.mono HB.out.size))
  have HS1 := Lib.hid hs1
  clear hb1 hs1 HR HB
  cases b1
  · go_wp2_with fail
    refine (awake6_any _ (HP.out.below HB1.out)).mono ?_
    rintro e w2 ⟨he, hb2⟩
    subst he
    have HB2 := Lib.hid (HB1.out.trans (hb2.mono HB1.out.size))
    clear hb2
    go_wp2
    go_ret
    exact ⟨rfl, HB2.out⟩
  · have hs1 := HS1.out
    unfold SndIs at hs1
    obtain ⟨hE, hC, hn0, hn1⟩ := hs1.1 rfl
    obtain ⟨A, rfl⟩ : ∃ A : Nat, a = (A : Int) := by
      unfold stdE at hE
      split at hE
      · rename_i h
        exact ⟨a.toNat, by have := (stdB_iff.1 h).1; omega⟩
      · cases hE
    obtain ⟨k, rfl⟩ : ∃ k : Nat, n = (k : Int) := ⟨n.toNat, by omega⟩
    obtain ⟨D, wn, -, hv⟩ := HVD.out hC
    have hcirc := hv.circ
    have hst : stdB (A : Int) t0 t = true := by
      unfold stdE at hE
      split at hE
      · assumption
      · cases hE
    obtain ⟨hA, hT0, hT1⟩ := stdB_iff.1 hst
    have hE0 : stdE (A : Int) t0 t0 = 0 := by unfold stdE; rw [if_pos (stdB_iff.2 ⟨hA, hT0, hT0⟩)]
    have hA1 : 100000 ≤ A := by omega
    have hA2 : A ≤ 1000000 := by omega
    have hroks : ∀ N, NotesL D (fN T D) wn 12 N → ROk (nr N k) := fun N hN => by
      obtain ⟨_, _, _, _, _, _, _, _, _, h⟩ := nr_ok (n := k) hcirc hN (by omega)
      exact h
    obtain ⟨F1, hF1⟩ : ∃ F : Int → Int → Prop, F = fun m j => ∃ N, NotesL D (fN T D) wn 12 N ∧ SpanIs (PwF (fqL A t0 t0 (nr N k)) (fqD (nr N k)) 1) m j := ⟨_, rfl⟩
    obtain ⟨F2, hF2⟩ : ∃ F : Int → Int → Prop, F = fun m j => ∃ N, NotesL D (fN T D) wn 12 N ∧ SpanIs (PwF (wvL A t0 (nr N k)) (wvD (nr N k)) 331300000000) m j := ⟨_, rfl⟩
    obtain ⟨F3, hF3⟩ : ∃ F : Int → Int → Prop, F = fun m j => SpanIs (PwF (fastL 0 t0) 2 331300000) m j := ⟨_, rfl⟩
    have C1 : ∀ W, PrL W → Calls Tryd.prog 25 #[.agg #[.int .i64 (A : Int), .int .i64 t0, .int .i64 t0], .agg L.toArray, .int .i64 (k : Int)] W (IvP W F1) := fun W h => by
      refine (HF0.out A k W h hE0 hC D wn hv (by omega)).mono ?_
      rintro e w' ⟨N, hN, m, j, hm, he, hb⟩
      exact ⟨m, j, by rw [hF1]; exact ⟨N, hN, hm⟩, he, hb⟩
    have C2 : ∀ W, PrL W → Calls Tryd.prog 26 #[.agg #[.int .i64 (A : Int), .int .i64 t0, .int .i64 t0], .agg L.toArray, .int .i64 (k : Int)] W (IvP W F2) := fun W h => by
      refine (HW0.out A k W h hE0 hC D wn hv (by omega)).mono ?_
      rintro e w' ⟨N, hN, m, j, hm, he, hb⟩
      exact ⟨m, j, by rw [hF2]; exact ⟨N, hN, hm⟩, he, hb⟩
    have C3 : ∀ W, Calls Tryd.prog 29 #[.int .i64 t0] W (IvP W F3) := fun W => by
      refine (Speed_any t0 W).mono ?_
      rintro e w' ⟨h | ⟨-, m, j, hm, he⟩, hb⟩
      · have := tOk_iff.2 hT0
        rw [this] at h
        cases h.1
      · exact ⟨m, j, by rw [hF3]; exact hm, he, hb⟩
    have X : ∀ u u' v v' c h, F1 u u' → F2 v v' → F3 c h → (0 ≤ u ∧ u ≤ u' ∧ u' ≤ 1000000000) ∧ (0 ≤ v ∧ v ≤ v' ∧ v' ≤ 1000000000) ∧ (0 ≤ c ∧ c ≤ h ∧ h ≤ 1000000000) ∧ u * v ≤ 1000 * h ∧ 1000 * c ≤ u' * v' := fun u u' v v' c h h1 h2 h3 => by
      rw [hF1] at h1
      rw [hF2] at h2
      rw [hF3] at h3
      obtain ⟨N, hN, h1⟩ := h1
      obtain ⟨N', hN', h2⟩ := h2
      have e := notes_uniq hcirc.d1 hN hN'
      subst e
      have hR := hroks N hN
      exact ⟨fq_bound hR (by omega) hA2 hT0.1 hT0.2 hT0.1 hT0.2 h1, wv_bound hR hA1 hA2 hT0.1 hT0.2 h2, sp_bound hT0.1 hT0.2 h3, fits_lo hR (by omega) hA2 hT0.1 hT0.2 h1 h2 h3, fits_hi hR (by omega) hA2 hT0.1 hT0.2 h1 h2 h3⟩
    obtain ⟨G1, hG1⟩ : ∃ G : Int → Prop, G = fun m => CtP (fastL t0 t) 2 m := ⟨_, rfl⟩
    obtain ⟨G2, hG2⟩ : ∃ G : Int → Prop, G = fun m => stdE (A : Int) t0 x = 0 ∧ CtP (fastL t0 x) 2 m := ⟨_, rfl⟩
    have C4 : ∀ W, Calls Tryd.prog 28 #[.agg #[.int .i64 (A : Int), .int .i64 t0, .int .i64 t]] W fun e w' => ∃ m, G1 m ∧ e = .returned (.tuple #[.int .i64 m, .int .i64 0]) ∧ Below W.heap.size W w' := fun W => by
      refine (Drift_any (A : Int) t0 t W).mono ?_
      rintro e w' ⟨h | ⟨-, m, hm, he⟩, hb⟩
      · exact absurd hE h.1
      · exact ⟨m, by rw [hG1]; exact hm, he, hb⟩
    have C5 : ∀ W, Calls Tryd.prog 28 #[.agg #[.int .i64 (A : Int), .int .i64 t0, .int .i64 x]] W fun e w' => ((∃ E : Int, (E == 0) = false ∧ e = .returned (.tuple #[.int .i64 0, .int .i64 E])) ∨ (∃ m, G2 m ∧ e = .returned (.tuple #[.int .i64 m, .int .i64 0]))) ∧ Below W.heap.size W w' := fun W => by
      refine (Drift_any (A : Int) t0 x W).mono ?_
      rintro e w' ⟨h | ⟨h0, m, hm, he⟩, hb⟩
      · exact ⟨.inl ⟨_, by simp [h.1], h.2⟩, hb⟩
      · exact ⟨.inr ⟨m, by rw [hG2]; exact ⟨h0, hm⟩, he⟩, hb⟩
    have Y : ∀ m j, G1 m → G2 j → (t < x → m ≤ j) ∧ (x < t → j ≤ m) ∧ (t = x → m = j) := fun m j h1 h2 => by
      rw [hG1] at h1
      rw [hG2] at h2
      have hx2 : stdB (A : Int) t0 x = true := by
        have h := h2.1
        unfold stdE at h
        split at h
        · assumption
        · cases h
      obtain ⟨-, -, hX⟩ := stdB_iff.1 hx2
      refine ⟨fun h => drift_mono hT0.1 hT0.2 hT1.1 (by omega) hX.2 h1 h2.2, fun h => drift_mono hT0.1 hT0.2 hX.1 (by omega) hT1.2 h2.2 h1, fun h => ?_⟩
      subst h
      have a1 := drift_mono hT0.1 hT0.2 hT1.1 (Int.le_refl _) hT1.2 h1 h2.2
      have a2 := drift_mono hT0.1 hT0.2 hT1.1 (Int.le_refl _) hT1.2 h2.2 h1
      omega
    have HC1 := Lib.hid C1
    have HC2 := Lib.hid C2
    have HC3 := Lib.hid C3
    have HC4 := Lib.hid C4
    have HC5 := Lib.hid C5
    have HX := Lib.hid X
    have HY := Lib.hid Y
    have HQ1 := Lib.hid (HCS.out ▸ HR1.out : RowV w1 w.heap.size 52 (.int .i64 (A : Int) :: .int .i64 t0 :: .int .i64 t :: L))
    have HI1 := Lib.hid (fun t => szStd (A : Int) t0 t)
    clear C1 C2 C3 C4 C5 X Y hF1 hF2 hF3 hG1 hG2 hcirc hv hst hA hT0 hT1 hE0 HF0 HW0 hE hC HVD hs1 HS1 HSN HI3 HR1 hA1 hA2 hL HCS hroks hn0 hn1
    go_wp2_with (first | ((show wpList _ _ _ (⟨_, .load _ _, _, _, _, _⟩ :: _) _ _); refine wpList_load_midw (by rfl) 50 _ rfl w.heap.size 0 rfl [.int .i64 (A : Int), .int .i64 t0, .int .i64 t] _ (cs_rows HQ1.out).1 Tryd.underlying50 rfl (HI1.out _) ?_) | ((show wpList _ _ _ (⟨_, .load _ _, _, _, _, _⟩ :: _) _ _); refine wpList_load_midw (by rfl) 38 _ rfl w.heap.size 3 rfl L _ (cs_rows HQ1.out).2 Tryd.underlying38 rfl HI2.out ?_))
    refine (HC4.out _).mono ?_
    rintro e u1 ⟨m1, g1, he, hb⟩
    subst he
    have HQ2 := Lib.hid (HQ1.out.up hb)
    have HB2 := Lib.hid (HB1.out.trans (hb.mono HB1.out.size))
    clear hb HQ1 HB1 HC4
    go_upto_region 6 with (first | ((show wpList _ _ _ (⟨_, .load _ _, _, _, _, _⟩ :: _) _ _); refine wpList_load_midw (by rfl) 50 _ rfl w.heap.size 0 rfl [.int .i64 (A : Int), .int .i64 t0, .int .i64 t] _ (cs_rows HQ2.out).1 Tryd.underlying50 rfl (HI1.out _) ?_) | ((show wpList _ _ _ (⟨_, .load _ _, _, _, _, _⟩ :: _) _ _); refine wpList_load_midw (by rfl) 38 _ rfl w.heap.size 3 rfl L _ (cs_rows HQ2.out).2 Tryd.underlying38 rfl HI2.out ?_))
    obtain ⟨V, hV⟩ : ∃ V, V = u1.alloc (.cells #[.int .i64 (A : Int), .int .i64 t0, .int .i64 x] 50) := ⟨_, rfl⟩
    rw [← hV]
    have RY : Hid (RowV V u1.heap.size 50 [.int .i64 (A : Int), .int .i64 t0, .int .i64 x]) := Lib.hid (by rw [hV]; exact RowV.of_alloc u1 _ _)
    have HQ3 : Hid (RowV V w.heap.size 52 (.int .i64 (A : Int) :: .int .i64 t0 :: .int .i64 t :: L)) := Lib.hid (by rw [hV]; exact HQ2.out.alloc _)
    have HB3 : Hid (Below w.heap.size w V) := Lib.hid (by rw [hV]; exact HB2.out.alloc HB2.out.size _)
    clear hV HQ2 HB2
    go_wp2_with ((show wpList _ _ _ (⟨_, .load _ _, _, _, _, _⟩ :: _) _ _); refine wpList_load_midw (by rfl) 50 _ rfl u1.heap.size 0 rfl [.int .i64 (A : Int), .int .i64 t0, .int .i64 x] _ RY.out.all Tryd.underlying50 rfl (HI1.out _) ?_)
    refine (HC5.out _).mono ?_
    rintro e u2 ⟨hcase, hb⟩
    have HQ4 := Lib.hid (HQ3.out.up hb)
    have HB4 := Lib.hid (HB3.out.trans (hb.mono HB3.out.size))
    clear hb HQ3 HB3 HC5 RY
    rcases hcase with ⟨E, hE, he⟩ | ⟨n1, g2, he⟩
    · subst he
      have cT := HQ4.out.cell (i := 2) rfl
      go_upto_region 7 with fail
      refine st_in ?_
      refine st_run (v := .int .i64 0) (.int .i64 0) (by kernel_rfl) (by kernel_rfl) rfl ?_
      simp only [Act.put, List.setIfInBounds_toArray, List.set_cons_zero, List.set_cons_succ]
      refine st_run (v := .bool false) (.bool false) (by kernel_rfl) (by kernel_rfl) rfl ?_
      simp only [Act.put, List.setIfInBounds_toArray, List.set_cons_zero, List.set_cons_succ]
      refine st_run (v := .bool false) (.bool false) (by kernel_rfl) (by kernel_rfl) rfl ?_
      simp only [Act.put, List.setIfInBounds_toArray, List.set_cons_zero, List.set_cons_succ]
      refine st_run (v := .int .i64 E) (.int .i64 E) (by kernel_rfl) (by kernel_rfl) rfl ?_
      simp only [Act.put, List.setIfInBounds_toArray, List.set_cons_zero, List.set_cons_succ]
      refine st_run (v := .bool (E == 0)) (.bool false) (by kernel_rfl) (by kernel_rfl) (congrArg Value.bool hE) ?_
      simp only [Act.put, List.setIfInBounds_toArray, List.set_cons_zero, List.set_cons_succ]
      refine st_run (v := .bool false) (.bool false) (by kernel_rfl) (by kernel_rfl) rfl ?_
      simp only [Act.put, List.setIfInBounds_toArray, List.set_cons_zero, List.set_cons_succ]
      refine st_skip (by kernel_rfl) ?_
      simp only [Act.put, List.setIfInBounds_toArray, List.set_cons_zero, List.set_cons_succ]
      refine st_skip (by kernel_rfl) ?_
      simp only [Act.put, List.setIfInBounds_toArray, List.set_cons_zero, List.set_cons_succ]
      refine st_skip (by kernel_rfl) ?_
      simp only [Act.put, List.setIfInBounds_toArray, List.set_cons_zero, List.set_cons_succ]
      refine st_skip (by kernel_rfl) ?_
      simp only [Act.put, List.setIfInBounds_toArray, List.set_cons_zero, List.set_cons_succ]
      refine st_skip (by kernel_rfl) ?_
      simp only [Act.put, List.setIfInBounds_toArray, List.set_cons_zero, List.set_cons_succ]
      refine st_skip (by kernel_rfl) ?_
      simp only [Act.put, List.setIfInBounds_toArray, List.set_cons_zero, List.set_cons_succ]
      refine st_skip (by kernel_rfl) ?_
      simp only [Act.put, List.setIfInBounds_toArray, List.set_cons_zero, List.set_cons_succ]
      refine st_skip (by kernel_rfl) ?_
      simp only [Act.put, List.setIfInBounds_toArray, List.set_cons_zero, List.set_cons_succ]
      refine st_skip (by kernel_rfl) ?_
      simp only [Act.put, List.setIfInBounds_toArray, List.set_cons_zero, List.set_cons_succ]
      refine st_skip (by kernel_rfl) ?_
      simp only [Act.put, List.setIfInBounds_toArray, List.set_cons_zero, List.set_cons_succ]
      refine st_skip (by kernel_rfl) ?_
      simp only [Act.put, List.setIfInBounds_toArray, List.set_cons_zero, List.set_cons_succ]
      refine st_skip (by kernel_rfl) ?_
      simp only [Act.put, List.setIfInBounds_toArray, List.set_cons_zero, List.set_cons_succ]
      refine st_skip (by kernel_rfl) ?_
      simp only [Act.put, List.setIfInBounds_toArray, List.set_cons_zero, List.set_cons_succ]
      refine st_skip (by kernel_rfl) ?_
      simp only [Act.put, List.setIfInBounds_toArray, List.set_cons_zero, List.set_cons_succ]
      refine st_skip (by kernel_rfl) ?_
      simp only [Act.put, List.setIfInBounds_toArray, List.set_cons_zero, List.set_cons_succ]
      refine st_skip (by kernel_rfl) ?_
      simp only [Act.put, List.setIfInBounds_toArray, List.set_cons_zero, List.set_cons_succ]
      refine st_skip (by kernel_rfl) ?_
      simp only [Act.put, List.setIfInBounds_toArray, List.set_cons_zero, List.set_cons_succ]
      refine st_skip (by kernel_rfl) ?_
      simp only [Act.put, List.setIfInBounds_toArray, List.set_cons_zero, List.set_cons_succ]
      refine st_skip (by kernel_rfl) ?_
      simp only [Act.put, List.setIfInBounds_toArray, List.set_cons_zero, List.set_cons_succ]
      refine st_skip (by kernel_rfl) ?_
      simp only [Act.put, List.setIfInBounds_toArray, List.set_cons_zero, List.set_cons_succ]
      refine st_skip (by kernel_rfl) ?_
      simp only [Act.put, List.setIfInBounds_toArray, List.set_cons_zero, List.set_cons_succ]
      refine st_skip (by kernel_rfl) ?_
      simp only [Act.put, List.setIfInBounds_toArray, List.set_cons_zero, List.set_cons_succ]
      refine st_skip (by kernel_rfl) ?_
      simp only [Act.put, List.setIfInBounds_toArray, List.set_cons_zero, List.set_cons_succ]
      refine st_skip (by kernel_rfl) ?_
      simp only [Act.put, List.setIfInBounds_toArray, List.set_cons_zero, List.set_cons_succ]
      refine st_skip (by kernel_rfl) ?_
      simp only [Act.put, List.setIfInBounds_toArray, List.set_cons_zero, List.set_cons_succ]
      refine st_skip (by kernel_rfl) ?_
      simp only [Act.put, List.setIfInBounds_toArray, List.set_cons_zero, List.set_cons_succ]
      refine st_skip (by kernel_rfl) ?_
      simp only [Act.put, List.setIfInBounds_toArray, List.set_cons_zero, List.set_cons_succ]
      refine st_skip (by kernel_rfl) ?_
      simp only [Act.put, List.setIfInBounds_toArray, List.set_cons_zero, List.set_cons_succ]
      refine st_skip (by kernel_rfl) ?_
      simp only [Act.put, List.setIfInBounds_toArray, List.set_cons_zero, List.set_cons_succ]
      refine st_skip (by kernel_rfl) ?_
      simp only [Act.put, List.setIfInBounds_toArray, List.set_cons_zero, List.set_cons_succ]
      refine st_skip (by kernel_rfl) ?_
      simp only [Act.put, List.setIfInBounds_toArray, List.set_cons_zero, List.set_cons_succ]
      refine st_skip (by kernel_rfl) ?_
      simp only [Act.put, List.setIfInBounds_toArray, List.set_cons_zero, List.set_cons_succ]
      refine st_skip (by kernel_rfl) ?_
      simp only [Act.put, List.setIfInBounds_toArray, List.set_cons_zero, List.set_cons_succ]
      refine st_skip (by kernel_rfl) ?_
      simp only [Act.put, List.setIfInBounds_toArray, List.set_cons_zero, List.set_cons_succ]
      refine st_run (v := .bool false) (.bool false) (by kernel_rfl) (by kernel_rfl) rfl ?_
      simp only [Act.put, List.setIfInBounds_toArray, List.set_cons_zero, List.set_cons_succ]
      refine st_run (v := .bool false) (.bool false) (by kernel_rfl) (by kernel_rfl) rfl ?_
      simp only [Act.put, List.setIfInBounds_toArray, List.set_cons_zero, List.set_cons_succ]
      refine st_nil ?_
      clear cT
      go_upto_region 9 with fail
      have c1 := HQ4.out.cell (i := 1) rfl
      have c2 := HQ4.out.cell (i := 2) rfl
      have z2 := RowV.z (i := 2) HQ4.out
      have HQ5 := Lib.hid (row_set2 (x := t0) HQ4.out)
      have HB5 := Lib.hid (HB4.out.setCell (Nat.le_refl _) (.int .i64 t0) : Below w.heap.size w (u2.setCell ⟨w.heap.size, 2, none⟩ (.int .i64 t0)))
      clear HQ4 HB4
      go_wp2_with (first | ((show wpList _ _ _ (⟨_, .load _ _, _, _, _, _⟩ :: _) _ _); refine wpList_load_midw (by rfl) 50 _ rfl w.heap.size 0 rfl [.int .i64 (A : Int), .int .i64 t0, .int .i64 t0] _ (cs_rows HQ5.out).1 Tryd.underlying50 rfl (HI1.out _) ?_) | ((show wpList _ _ _ (⟨_, .load _ _, _, _, _, _⟩ :: _) _ _); refine wpList_load_midw (by rfl) 38 _ rfl w.heap.size 3 rfl L _ (cs_rows HQ5.out).2 Tryd.underlying38 rfl HI2.out ?_))
      refine (HC1.out _ (HP.out.below HB5.out)).mono ?_
      rintro e u3 ⟨m2, j2, p2, he, hb⟩
      subst he
      clear c1 c2 z2
      have HQ6 := Lib.hid ((HQ5.out.up hb).alloc (.cells #[.int .i64 m2, .int .i64 j2] 55))
      have hbx := HB5.out.trans (hb.mono HB5.out.size)
      have HB6 := Lib.hid (hbx.alloc hbx.size (.cells #[.int .i64 m2, .int .i64 j2] 55))
      have I2_6 := Lib.hid (RowV.of_alloc u3 55 [.int .i64 m2, .int .i64 j2])
      clear hb hbx HQ5 HB5 HC1
      go_wp2_with (first | ((show wpList _ _ _ (⟨_, .load _ _, _, _, _, _⟩ :: _) _ _); refine wpList_load_midw (by rfl) 50 _ rfl w.heap.size 0 rfl [.int .i64 (A : Int), .int .i64 t0, .int .i64 t0] _ (cs_rows HQ6.out).1 Tryd.underlying50 rfl (HI1.out _) ?_) | ((show wpList _ _ _ (⟨_, .load _ _, _, _, _, _⟩ :: _) _ _); refine wpList_load_midw (by rfl) 38 _ rfl w.heap.size 3 rfl L _ (cs_rows HQ6.out).2 Tryd.underlying38 rfl HI2.out ?_))
      refine (HC2.out _ (HP.out.below HB6.out)).mono ?_
      rintro e u4 ⟨m3, j3, p3, he, hb⟩
      subst he
      have HQ7 := Lib.hid ((HQ6.out.up hb).alloc (.cells #[.int .i64 m3, .int .i64 j3] 55))
      have I2_7 := Lib.hid ((I2_6.out.up hb).alloc (.cells #[.int .i64 m3, .int .i64 j3] 55))
      have hbx := HB6.out.trans (hb.mono HB6.out.size)
      have HB7 := Lib.hid (hbx.alloc hbx.size (.cells #[.int .i64 m3, .int .i64 j3] 55))
      have I3_7 := Lib.hid (RowV.of_alloc u4 55 [.int .i64 m3, .int .i64 j3])
      have c7 := HQ7.out.cell (i := 1) rfl
      clear hb hbx HQ6 HB6 HC2 I2_6
      go_wp2_with fail
      refine (HC3.out _).mono ?_
      rintro e u5 ⟨m4, j4, p4, he, hb⟩
      subst he
      obtain ⟨W, hW⟩ : ∃ W, W = u5.alloc (.cells #[.int .i64 m4, .int .i64 j4] 55) := ⟨_, rfl⟩
      have hbx := HB7.out.trans (hb.mono HB7.out.size)
      have HB8 : Hid (Below w.heap.size w W) := Lib.hid (by rw [hW]; exact hbx.alloc hbx.size _)
      have I2 : RowV W u3.heap.size 55 [.int .i64 m2, .int .i64 j2] := by rw [hW]; exact (I2_7.out.up hb).alloc _
      have I3 : RowV W u4.heap.size 55 [.int .i64 m3, .int .i64 j3] := by rw [hW]; exact (I3_7.out.up hb).alloc _
      have I4 : RowV W u5.heap.size 55 [.int .i64 m4, .int .i64 j4] := by rw [hW]; exact RowV.of_alloc u5 _ _
      have HWE := Lib.hid hW
      have a0 := RowV.c0 I2
      have a1 := RowV.c1 I2
      have b0 := RowV.c0 I3
      have b1 := RowV.c1 I3
      have d0 := RowV.c0 I4
      have d1 := RowV.c1 I4
      clear hb hbx hW HQ7 HB7 I2_7 I3_7 HC3 c7 I2 I3 I4
      obtain ⟨⟨x1, x2, x3⟩, ⟨y1, y2, y3⟩, ⟨z1, z2, z3⟩, q1, q2⟩ := HX.out _ _ _ _ _ _ p2 p3 p4
      have f1 : decide (m2 < 0) = false := decide_eq_false (by omega)
      have f2 : decide (1000000000 < j2) = false := decide_eq_false (by omega)
      have f3 : decide (m3 < 0) = false := decide_eq_false (by omega)
      have f4 : decide (1000000000 < j3) = false := decide_eq_false (by omega)
      have f5 : decide (m4 < 0) = false := decide_eq_false (by omega)
      have f6 : decide (1000000000 < j4) = false := decide_eq_false (by omega)
      have n1 := Int.mul_nonneg x1 y1
      have n2 : m2 * m3 ≤ 1000000000 * 1000000000 := Int.mul_le_mul (by omega) (by omega) y1 (by omega)
      have n3 := Int.mul_nonneg (show 0 ≤ j2 by omega) (show 0 ≤ j3 by omega)
      have n4 : j2 * j3 ≤ 1000000000 * 1000000000 := Int.mul_le_mul x3 y3 (by omega) (by omega)
      obtain ⟨s1, hs1⟩ : ∃ s, s = m2 * m3 := ⟨_, rfl⟩
      obtain ⟨s2, hs2⟩ : ∃ s, s = j2 * j3 := ⟨_, rfl⟩
      obtain ⟨s3, hs3⟩ : ∃ s, s = 1000 * j4 := ⟨_, rfl⟩
      obtain ⟨s4, hs4⟩ : ∃ s, s = 1000 * m4 := ⟨_, rfl⟩
      rw [← hs1] at n1 n2 q1
      rw [← hs2] at n3 n4 q2
      rw [← hs3] at q1
      rw [← hs4] at q2
      have w1 : IntKind.i64.wrap (m2 * m3) = s1 := by rw [← hs1]; exact IntWalk.i64_in _ (by omega)
      have w2 : IntKind.i64.wrap (j2 * j3) = s2 := by rw [← hs2]; exact IntWalk.i64_in _ (by omega)
      have w3 : IntKind.i64.wrap (1000 * j4) = s3 := by rw [← hs3]; exact IntWalk.i64_in _ (by omega)
      have w4 : IntKind.i64.wrap (1000 * m4) = s4 := by rw [← hs4]; exact IntWalk.i64_in _ (by omega)
      have f7 : decide (s1 ≤ s3) = true := decide_eq_true q1
      have f8 : decide (s4 ≤ s2) = true := decide_eq_true q2
      have W1 := Lib.hid w1
      have W2 := Lib.hid w2
      have W3 := Lib.hid w3
      have W4 := Lib.hid w4
      have F1' := Lib.hid f1
      have F2' := Lib.hid f2
      have F3' := Lib.hid f3
      have F4' := Lib.hid f4
      have F5' := Lib.hid f5
      have F6' := Lib.hid f6
      have F7' := Lib.hid f7
      have F8' := Lib.hid f8
      clear w1 w2 w3 w4 f1 f2 f3 f4 f5 f6 f7 f8 n1 n2 n3 n4 hs1 hs2 hs3 hs4 q1 q2 x1 x2 x3 y1 y2 y3 z1 z2 z3 p2 p3 p4 HX
      go_upto_region 13 with fail
      rw [← HWE.out]
      clear HWE
      refine st_in ?_
      refine st_run (v := .int .i64 0) (.int .i64 0) (by kernel_rfl) (by kernel_rfl) rfl ?_
      simp only [Act.put, List.setIfInBounds_toArray, List.set_cons_zero, List.set_cons_succ]
      refine st_run (v := .bool false) (.bool false) (by kernel_rfl) (by kernel_rfl) rfl ?_
      simp only [Act.put, List.setIfInBounds_toArray, List.set_cons_zero, List.set_cons_succ]
      refine st_run (v := .bool false) (.bool false) (by kernel_rfl) (by kernel_rfl) rfl ?_
      simp only [Act.put, List.setIfInBounds_toArray, List.set_cons_zero, List.set_cons_succ]
      refine st_run (v := .int .i64 0) (.int .i64 0) (by kernel_rfl) (by kernel_rfl) rfl ?_
      simp only [Act.put, List.setIfInBounds_toArray, List.set_cons_zero, List.set_cons_succ]
      refine st_run (v := .bool false) (.bool false) (by kernel_rfl) (by kernel_rfl) rfl ?_
      simp only [Act.put, List.setIfInBounds_toArray, List.set_cons_zero, List.set_cons_succ]
      refine st_run (v := .bool false) (.bool false) (by kernel_rfl) (by kernel_rfl) rfl ?_
      simp only [Act.put, List.setIfInBounds_toArray, List.set_cons_zero, List.set_cons_succ]
      refine st_run (v := .bool false) (.bool false) (by kernel_rfl) (by kernel_rfl) rfl ?_
      simp only [Act.put, List.setIfInBounds_toArray, List.set_cons_zero, List.set_cons_succ]
      refine st_run (v := .int .i64 0) (.int .i64 0) (by kernel_rfl) (by kernel_rfl) rfl ?_
      simp only [Act.put, List.setIfInBounds_toArray, List.set_cons_zero, List.set_cons_succ]
      refine st_run (v := .bool false) (.bool false) (by kernel_rfl) (by kernel_rfl) rfl ?_
      simp only [Act.put, List.setIfInBounds_toArray, List.set_cons_zero, List.set_cons_succ]
      refine st_run (v := .bool false) (.bool false) (by kernel_rfl) (by kernel_rfl) rfl ?_
      simp only [Act.put, List.setIfInBounds_toArray, List.set_cons_zero, List.set_cons_succ]
      refine st_run (v := .bool false) (.bool false) (by kernel_rfl) (by kernel_rfl) rfl ?_
      simp only [Act.put, List.setIfInBounds_toArray, List.set_cons_zero, List.set_cons_succ]
      refine st_run (v := .pointer (some ⟨u3.heap.size, 0, none⟩)) (.pointer (some ⟨u3.heap.size, 0, none⟩)) (by kernel_rfl) (by kernel_rfl) rfl ?_
      simp only [Act.put, List.setIfInBounds_toArray, List.set_cons_zero, List.set_cons_succ]
      refine st_load m2 (.tmp 119) ⟨u3.heap.size, 0, none⟩ (by kernel_rfl) rfl (by kernel_rfl) a0 ?_
      simp only [Act.put, List.setIfInBounds_toArray, List.set_cons_zero, List.set_cons_succ]
      refine st_run (v := .bool (decide (m2 < 0))) (.bool false) (by kernel_rfl) (by kernel_rfl) (congrArg Value.bool F1'.out) ?_
      simp only [Act.put, List.setIfInBounds_toArray, List.set_cons_zero, List.set_cons_succ]
      refine st_run (v := .bool false) (.bool false) (by kernel_rfl) (by kernel_rfl) rfl ?_
      simp only [Act.put, List.setIfInBounds_toArray, List.set_cons_zero, List.set_cons_succ]
      refine st_run (v := .bool false) (.bool false) (by kernel_rfl) (by kernel_rfl) rfl ?_
      simp only [Act.put, List.setIfInBounds_toArray, List.set_cons_zero, List.set_cons_succ]
      refine st_run (v := .pointer (some ⟨u3.heap.size, 1, none⟩)) (.pointer (some ⟨u3.heap.size, 1, none⟩)) (by kernel_rfl) (by kernel_rfl) rfl ?_
      simp only [Act.put, List.setIfInBounds_toArray, List.set_cons_zero, List.set_cons_succ]
      refine st_load j2 (.tmp 124) ⟨u3.heap.size, 1, none⟩ (by kernel_rfl) rfl (by kernel_rfl) a1 ?_
      simp only [Act.put, List.setIfInBounds_toArray, List.set_cons_zero, List.set_cons_succ]
      refine st_run (v := .bool (decide (1000000000 < j2))) (.bool false) (by kernel_rfl) (by kernel_rfl) (congrArg Value.bool F2'.out) ?_
      simp only [Act.put, List.setIfInBounds_toArray, List.set_cons_zero, List.set_cons_succ]
      refine st_run (v := .bool false) (.bool false) (by kernel_rfl) (by kernel_rfl) rfl ?_
      simp only [Act.put, List.setIfInBounds_toArray, List.set_cons_zero, List.set_cons_succ]
      refine st_run (v := .bool false) (.bool false) (by kernel_rfl) (by kernel_rfl) rfl ?_
      simp only [Act.put, List.setIfInBounds_toArray, List.set_cons_zero, List.set_cons_succ]
      refine st_run (v := .pointer (some ⟨u4.heap.size, 0, none⟩)) (.pointer (some ⟨u4.heap.size, 0, none⟩)) (by kernel_rfl) (by kernel_rfl) rfl ?_
      simp only [Act.put, List.setIfInBounds_toArray, List.set_cons_zero, List.set_cons_succ]
      refine st_load m3 (.tmp 129) ⟨u4.heap.size, 0, none⟩ (by kernel_rfl) rfl (by kernel_rfl) b0 ?_
      simp only [Act.put, List.setIfInBounds_toArray, List.set_cons_zero, List.set_cons_succ]
      refine st_run (v := .bool (decide (m3 < 0))) (.bool false) (by kernel_rfl) (by kernel_rfl) (congrArg Value.bool F3'.out) ?_
      simp only [Act.put, List.setIfInBounds_toArray, List.set_cons_zero, List.set_cons_succ]
      refine st_run (v := .bool false) (.bool false) (by kernel_rfl) (by kernel_rfl) rfl ?_
      simp only [Act.put, List.setIfInBounds_toArray, List.set_cons_zero, List.set_cons_succ]
      refine st_run (v := .bool false) (.bool false) (by kernel_rfl) (by kernel_rfl) rfl ?_
      simp only [Act.put, List.setIfInBounds_toArray, List.set_cons_zero, List.set_cons_succ]
      refine st_run (v := .pointer (some ⟨u4.heap.size, 1, none⟩)) (.pointer (some ⟨u4.heap.size, 1, none⟩)) (by kernel_rfl) (by kernel_rfl) rfl ?_
      simp only [Act.put, List.setIfInBounds_toArray, List.set_cons_zero, List.set_cons_succ]
      refine st_load j3 (.tmp 134) ⟨u4.heap.size, 1, none⟩ (by kernel_rfl) rfl (by kernel_rfl) b1 ?_
      simp only [Act.put, List.setIfInBounds_toArray, List.set_cons_zero, List.set_cons_succ]
      refine st_run (v := .bool (decide (1000000000 < j3))) (.bool false) (by kernel_rfl) (by kernel_rfl) (congrArg Value.bool F4'.out) ?_
      simp only [Act.put, List.setIfInBounds_toArray, List.set_cons_zero, List.set_cons_succ]
      refine st_run (v := .bool false) (.bool false) (by kernel_rfl) (by kernel_rfl) rfl ?_
      simp only [Act.put, List.setIfInBounds_toArray, List.set_cons_zero, List.set_cons_succ]
      refine st_run (v := .bool false) (.bool false) (by kernel_rfl) (by kernel_rfl) rfl ?_
      simp only [Act.put, List.setIfInBounds_toArray, List.set_cons_zero, List.set_cons_succ]
      refine st_run (v := .pointer (some ⟨u5.heap.size, 0, none⟩)) (.pointer (some ⟨u5.heap.size, 0, none⟩)) (by kernel_rfl) (by kernel_rfl) rfl ?_
      simp only [Act.put, List.setIfInBounds_toArray, List.set_cons_zero, List.set_cons_succ]
      refine st_load m4 (.tmp 139) ⟨u5.heap.size, 0, none⟩ (by kernel_rfl) rfl (by kernel_rfl) d0 ?_
      simp only [Act.put, List.setIfInBounds_toArray, List.set_cons_zero, List.set_cons_succ]
      refine st_run (v := .bool (decide (m4 < 0))) (.bool false) (by kernel_rfl) (by kernel_rfl) (congrArg Value.bool F5'.out) ?_
      simp only [Act.put, List.setIfInBounds_toArray, List.set_cons_zero, List.set_cons_succ]
      refine st_run (v := .bool false) (.bool false) (by kernel_rfl) (by kernel_rfl) rfl ?_
      simp only [Act.put, List.setIfInBounds_toArray, List.set_cons_zero, List.set_cons_succ]
      refine st_run (v := .bool false) (.bool false) (by kernel_rfl) (by kernel_rfl) rfl ?_
      simp only [Act.put, List.setIfInBounds_toArray, List.set_cons_zero, List.set_cons_succ]
      refine st_run (v := .pointer (some ⟨u5.heap.size, 1, none⟩)) (.pointer (some ⟨u5.heap.size, 1, none⟩)) (by kernel_rfl) (by kernel_rfl) rfl ?_
      simp only [Act.put, List.setIfInBounds_toArray, List.set_cons_zero, List.set_cons_succ]
      refine st_load j4 (.tmp 144) ⟨u5.heap.size, 1, none⟩ (by kernel_rfl) rfl (by kernel_rfl) d1 ?_
      simp only [Act.put, List.setIfInBounds_toArray, List.set_cons_zero, List.set_cons_succ]
      refine st_run (v := .bool (decide (1000000000 < j4))) (.bool false) (by kernel_rfl) (by kernel_rfl) (congrArg Value.bool F6'.out) ?_
      simp only [Act.put, List.setIfInBounds_toArray, List.set_cons_zero, List.set_cons_succ]
      refine st_run (v := .bool false) (.bool false) (by kernel_rfl) (by kernel_rfl) rfl ?_
      simp only [Act.put, List.setIfInBounds_toArray, List.set_cons_zero, List.set_cons_succ]
      refine st_nil ?_
      go_upto_region 15 with fail
      refine st_in ?_
      refine st_run (v := .pointer (some ⟨u3.heap.size, 0, none⟩)) (.pointer (some ⟨u3.heap.size, 0, none⟩)) (by kernel_rfl) (by kernel_rfl) rfl ?_
      simp only [Act.put, List.setIfInBounds_toArray, List.set_cons_zero, List.set_cons_succ]
      refine st_load m2 (.tmp 148) ⟨u3.heap.size, 0, none⟩ (by kernel_rfl) rfl (by kernel_rfl) a0 ?_
      simp only [Act.put, List.setIfInBounds_toArray, List.set_cons_zero, List.set_cons_succ]
      refine st_run (v := .pointer (some ⟨u4.heap.size, 0, none⟩)) (.pointer (some ⟨u4.heap.size, 0, none⟩)) (by kernel_rfl) (by kernel_rfl) rfl ?_
      simp only [Act.put, List.setIfInBounds_toArray, List.set_cons_zero, List.set_cons_succ]
      refine st_load m3 (.tmp 150) ⟨u4.heap.size, 0, none⟩ (by kernel_rfl) rfl (by kernel_rfl) b0 ?_
      simp only [Act.put, List.setIfInBounds_toArray, List.set_cons_zero, List.set_cons_succ]
      refine st_run (v := .int .i64 (IntKind.i64.wrap (m2 * m3))) (.int .i64 s1) (by kernel_rfl) (by kernel_rfl) (congrArg (Value.int .i64) W1.out) ?_
      simp only [Act.put, List.setIfInBounds_toArray, List.set_cons_zero, List.set_cons_succ]
      refine st_run (v := .pointer (some ⟨u5.heap.size, 1, none⟩)) (.pointer (some ⟨u5.heap.size, 1, none⟩)) (by kernel_rfl) (by kernel_rfl) rfl ?_
      simp only [Act.put, List.setIfInBounds_toArray, List.set_cons_zero, List.set_cons_succ]
      refine st_load j4 (.tmp 153) ⟨u5.heap.size, 1, none⟩ (by kernel_rfl) rfl (by kernel_rfl) d1 ?_
      simp only [Act.put, List.setIfInBounds_toArray, List.set_cons_zero, List.set_cons_succ]
      refine st_run (v := .int .i64 (IntKind.i64.wrap (1000 * j4))) (.int .i64 s3) (by kernel_rfl) (by kernel_rfl) (congrArg (Value.int .i64) W3.out) ?_
      simp only [Act.put, List.setIfInBounds_toArray, List.set_cons_zero, List.set_cons_succ]
      refine st_run (v := .bool (decide (s1 ≤ s3))) (.bool true) (by kernel_rfl) (by kernel_rfl) (congrArg Value.bool F7'.out) ?_
      simp only [Act.put, List.setIfInBounds_toArray, List.set_cons_zero, List.set_cons_succ]
      refine st_run (v := .bool true) (.bool true) (by kernel_rfl) (by kernel_rfl) rfl ?_
      simp only [Act.put, List.setIfInBounds_toArray, List.set_cons_zero, List.set_cons_succ]
      refine st_run (v := .pointer (some ⟨u3.heap.size, 1, none⟩)) (.pointer (some ⟨u3.heap.size, 1, none⟩)) (by kernel_rfl) (by kernel_rfl) rfl ?_
      simp only [Act.put, List.setIfInBounds_toArray, List.set_cons_zero, List.set_cons_succ]
      refine st_load j2 (.tmp 158) ⟨u3.heap.size, 1, none⟩ (by kernel_rfl) rfl (by kernel_rfl) a1 ?_
      simp only [Act.put, List.setIfInBounds_toArray, List.set_cons_zero, List.set_cons_succ]
      refine st_run (v := .pointer (some ⟨u4.heap.size, 1, none⟩)) (.pointer (some ⟨u4.heap.size, 1, none⟩)) (by kernel_rfl) (by kernel_rfl) rfl ?_
      simp only [Act.put, List.setIfInBounds_toArray, List.set_cons_zero, List.set_cons_succ]
      refine st_load j3 (.tmp 160) ⟨u4.heap.size, 1, none⟩ (by kernel_rfl) rfl (by kernel_rfl) b1 ?_
      simp only [Act.put, List.setIfInBounds_toArray, List.set_cons_zero, List.set_cons_succ]
      refine st_run (v := .int .i64 (IntKind.i64.wrap (j2 * j3))) (.int .i64 s2) (by kernel_rfl) (by kernel_rfl) (congrArg (Value.int .i64) W2.out) ?_
      simp only [Act.put, List.setIfInBounds_toArray, List.set_cons_zero, List.set_cons_succ]
      refine st_run (v := .pointer (some ⟨u5.heap.size, 0, none⟩)) (.pointer (some ⟨u5.heap.size, 0, none⟩)) (by kernel_rfl) (by kernel_rfl) rfl ?_
      simp only [Act.put, List.setIfInBounds_toArray, List.set_cons_zero, List.set_cons_succ]
      refine st_load m4 (.tmp 163) ⟨u5.heap.size, 0, none⟩ (by kernel_rfl) rfl (by kernel_rfl) d0 ?_
      simp only [Act.put, List.setIfInBounds_toArray, List.set_cons_zero, List.set_cons_succ]
      refine st_run (v := .int .i64 (IntKind.i64.wrap (1000 * m4))) (.int .i64 s4) (by kernel_rfl) (by kernel_rfl) (congrArg (Value.int .i64) W4.out) ?_
      simp only [Act.put, List.setIfInBounds_toArray, List.set_cons_zero, List.set_cons_succ]
      refine st_run (v := .bool (decide (s4 ≤ s2))) (.bool true) (by kernel_rfl) (by kernel_rfl) (congrArg Value.bool F8'.out) ?_
      simp only [Act.put, List.setIfInBounds_toArray, List.set_cons_zero, List.set_cons_succ]
      refine st_run (v := .bool true) (.bool true) (by kernel_rfl) (by kernel_rfl) rfl ?_
      simp only [Act.put, List.setIfInBounds_toArray, List.set_cons_zero, List.set_cons_succ]
      refine st_run (v := .bool true) (.bool true) (by kernel_rfl) (by kernel_rfl) rfl ?_
      simp only [Act.put, List.setIfInBounds_toArray, List.set_cons_zero, List.set_cons_succ]
      refine st_call 24 #[] (R := fun v w' => v = .bool true ∧ Below W.heap.size W w') (by kernel_rfl) (by kernel_rfl) ((awake6_any _ (HP.out.below HB8.out)).mono (by rintro e w' ⟨he, hb⟩; exact ⟨_, he, rfl, hb⟩)) ?_
      rintro v v3 ⟨rfl, hb⟩
      have HB9 := Lib.hid (HB8.out.trans (hb.mono HB8.out.size))
      clear hb
      simp only [Act.put, List.setIfInBounds_toArray, List.set_cons_zero, List.set_cons_succ]
      refine st_run (v := .bool true) (.bool true) (by kernel_rfl) (by kernel_rfl) rfl ?_
      simp only [Act.put, List.setIfInBounds_toArray, List.set_cons_zero, List.set_cons_succ]
      refine st_run (v := .bool true) (.bool true) (by kernel_rfl) (by kernel_rfl) rfl ?_
      simp only [Act.put, List.setIfInBounds_toArray, List.set_cons_zero, List.set_cons_succ]
      refine st_nil ?_
      go_wp2
      go_ret
      exact ⟨rfl, HB9.out⟩
    · subst he
      obtain ⟨o1, o2, o3⟩ := HY.out _ _ g1 g2
      rcases Int.lt_trichotomy t x with h | h | h
      · have k1 := Lib.hid (decide_eq_true h)
        have k2 := Lib.hid (show decide (n1 < m1) = false from decide_eq_false (by have := o1 h; omega))
        have k3 := Lib.hid (show decide (x < t) = false from decide_eq_false (by omega))
        have k4 := Lib.hid (show (t == x) = false by simp; omega)
        clear h o1 o2 o3 g1 g2 HY
        have cT := HQ4.out.cell (i := 2) rfl
        go_upto_region 7 with fail
        refine st_in ?_
        refine st_run (v := .int .i64 0) (.int .i64 0) (by kernel_rfl) (by kernel_rfl) rfl ?_
        simp only [Act.put, List.setIfInBounds_toArray, List.set_cons_zero, List.set_cons_succ]
        refine st_run (v := .bool false) (.bool false) (by kernel_rfl) (by kernel_rfl) rfl ?_
        simp only [Act.put, List.setIfInBounds_toArray, List.set_cons_zero, List.set_cons_succ]
        refine st_run (v := .bool false) (.bool false) (by kernel_rfl) (by kernel_rfl) rfl ?_
        simp only [Act.put, List.setIfInBounds_toArray, List.set_cons_zero, List.set_cons_succ]
        refine st_run (v := .int .i64 0) (.int .i64 0) (by kernel_rfl) (by kernel_rfl) rfl ?_
        simp only [Act.put, List.setIfInBounds_toArray, List.set_cons_zero, List.set_cons_succ]
        refine st_run (v := .bool true) (.bool true) (by kernel_rfl) (by kernel_rfl) rfl ?_
        simp only [Act.put, List.setIfInBounds_toArray, List.set_cons_zero, List.set_cons_succ]
        refine st_run (v := .bool true) (.bool true) (by kernel_rfl) (by kernel_rfl) rfl ?_
        simp only [Act.put, List.setIfInBounds_toArray, List.set_cons_zero, List.set_cons_succ]
        refine st_run (v := .pointer (some ⟨w.heap.size, 0, none⟩)) (.pointer (some ⟨w.heap.size, 0, none⟩)) (by kernel_rfl) (by kernel_rfl) rfl ?_
        simp only [Act.put, List.setIfInBounds_toArray, List.set_cons_zero, List.set_cons_succ]
        refine st_run (v := .pointer (some ⟨w.heap.size, 2, none⟩)) (.pointer (some ⟨w.heap.size, 2, none⟩)) (by kernel_rfl) (by kernel_rfl) rfl ?_
        simp only [Act.put, List.setIfInBounds_toArray, List.set_cons_zero, List.set_cons_succ]
        refine st_load t (.tmp 43) ⟨w.heap.size, 2, none⟩ (by kernel_rfl) rfl (by kernel_rfl) cT ?_
        simp only [Act.put, List.setIfInBounds_toArray, List.set_cons_zero, List.set_cons_succ]
        refine st_run (v := .int .i64 x) (.int .i64 x) (by kernel_rfl) (by kernel_rfl) rfl ?_
        simp only [Act.put, List.setIfInBounds_toArray, List.set_cons_zero, List.set_cons_succ]
        refine st_run (v := .bool (decide (t < x))) (.bool true) (by kernel_rfl) (by kernel_rfl) (congrArg Value.bool k1.out) ?_
        simp only [Act.put, List.setIfInBounds_toArray, List.set_cons_zero, List.set_cons_succ]
        refine st_run (v := .bool true) (.bool true) (by kernel_rfl) (by kernel_rfl) rfl ?_
        simp only [Act.put, List.setIfInBounds_toArray, List.set_cons_zero, List.set_cons_succ]
        refine st_run (v := .int .i64 m1) (.int .i64 m1) (by kernel_rfl) (by kernel_rfl) rfl ?_
        simp only [Act.put, List.setIfInBounds_toArray, List.set_cons_zero, List.set_cons_succ]
        refine st_run (v := .int .i64 n1) (.int .i64 n1) (by kernel_rfl) (by kernel_rfl) rfl ?_
        simp only [Act.put, List.setIfInBounds_toArray, List.set_cons_zero, List.set_cons_succ]
        refine st_run (v := .bool (decide (n1 < m1))) (.bool false) (by kernel_rfl) (by kernel_rfl) (congrArg Value.bool k2.out) ?_
        simp only [Act.put, List.setIfInBounds_toArray, List.set_cons_zero, List.set_cons_succ]
        refine st_run (v := .bool false) (.bool false) (by kernel_rfl) (by kernel_rfl) rfl ?_
        simp only [Act.put, List.setIfInBounds_toArray, List.set_cons_zero, List.set_cons_succ]
        refine st_run (v := .bool false) (.bool false) (by kernel_rfl) (by kernel_rfl) rfl ?_
        simp only [Act.put, List.setIfInBounds_toArray, List.set_cons_zero, List.set_cons_succ]
        refine st_run (v := .pointer (some ⟨w.heap.size, 0, none⟩)) (.pointer (some ⟨w.heap.size, 0, none⟩)) (by kernel_rfl) (by kernel_rfl) rfl ?_
        simp only [Act.put, List.setIfInBounds_toArray, List.set_cons_zero, List.set_cons_succ]
        refine st_run (v := .pointer (some ⟨w.heap.size, 2, none⟩)) (.pointer (some ⟨w.heap.size, 2, none⟩)) (by kernel_rfl) (by kernel_rfl) rfl ?_
        simp only [Act.put, List.setIfInBounds_toArray, List.set_cons_zero, List.set_cons_succ]
        refine st_load t (.tmp 54) ⟨w.heap.size, 2, none⟩ (by kernel_rfl) rfl (by kernel_rfl) cT ?_
        simp only [Act.put, List.setIfInBounds_toArray, List.set_cons_zero, List.set_cons_succ]
        refine st_run (v := .int .i64 x) (.int .i64 x) (by kernel_rfl) (by kernel_rfl) rfl ?_
        simp only [Act.put, List.setIfInBounds_toArray, List.set_cons_zero, List.set_cons_succ]
        refine st_run (v := .bool (decide (x < t))) (.bool false) (by kernel_rfl) (by kernel_rfl) (congrArg Value.bool k3.out) ?_
        simp only [Act.put, List.setIfInBounds_toArray, List.set_cons_zero, List.set_cons_succ]
        refine st_run (v := .bool false) (.bool false) (by kernel_rfl) (by kernel_rfl) rfl ?_
        simp only [Act.put, List.setIfInBounds_toArray, List.set_cons_zero, List.set_cons_succ]
        refine st_skip (by kernel_rfl) ?_
        simp only [Act.put, List.setIfInBounds_toArray, List.set_cons_zero, List.set_cons_succ]
        refine st_skip (by kernel_rfl) ?_
        simp only [Act.put, List.setIfInBounds_toArray, List.set_cons_zero, List.set_cons_succ]
        refine st_skip (by kernel_rfl) ?_
        simp only [Act.put, List.setIfInBounds_toArray, List.set_cons_zero, List.set_cons_succ]
        refine st_run (v := .bool false) (.bool false) (by kernel_rfl) (by kernel_rfl) rfl ?_
        simp only [Act.put, List.setIfInBounds_toArray, List.set_cons_zero, List.set_cons_succ]
        refine st_run (v := .bool false) (.bool false) (by kernel_rfl) (by kernel_rfl) rfl ?_
        simp only [Act.put, List.setIfInBounds_toArray, List.set_cons_zero, List.set_cons_succ]
        refine st_run (v := .bool false) (.bool false) (by kernel_rfl) (by kernel_rfl) rfl ?_
        simp only [Act.put, List.setIfInBounds_toArray, List.set_cons_zero, List.set_cons_succ]
        refine st_run (v := .pointer (some ⟨w.heap.size, 0, none⟩)) (.pointer (some ⟨w.heap.size, 0, none⟩)) (by kernel_rfl) (by kernel_rfl) rfl ?_
        simp only [Act.put, List.setIfInBounds_toArray, List.set_cons_zero, List.set_cons_succ]
        refine st_run (v := .pointer (some ⟨w.heap.size, 2, none⟩)) (.pointer (some ⟨w.heap.size, 2, none⟩)) (by kernel_rfl) (by kernel_rfl) rfl ?_
        simp only [Act.put, List.setIfInBounds_toArray, List.set_cons_zero, List.set_cons_succ]
        refine st_load t (.tmp 66) ⟨w.heap.size, 2, none⟩ (by kernel_rfl) rfl (by kernel_rfl) cT ?_
        simp only [Act.put, List.setIfInBounds_toArray, List.set_cons_zero, List.set_cons_succ]
        refine st_run (v := .int .i64 x) (.int .i64 x) (by kernel_rfl) (by kernel_rfl) rfl ?_
        simp only [Act.put, List.setIfInBounds_toArray, List.set_cons_zero, List.set_cons_succ]
        refine st_run (v := .bool (t == x)) (.bool false) (by kernel_rfl) (by kernel_rfl) (congrArg Value.bool k4.out) ?_
        simp only [Act.put, List.setIfInBounds_toArray, List.set_cons_zero, List.set_cons_succ]
        refine st_run (v := .bool false) (.bool false) (by kernel_rfl) (by kernel_rfl) rfl ?_
        simp only [Act.put, List.setIfInBounds_toArray, List.set_cons_zero, List.set_cons_succ]
        refine st_skip (by kernel_rfl) ?_
        simp only [Act.put, List.setIfInBounds_toArray, List.set_cons_zero, List.set_cons_succ]
        refine st_skip (by kernel_rfl) ?_
        simp only [Act.put, List.setIfInBounds_toArray, List.set_cons_zero, List.set_cons_succ]
        refine st_skip (by kernel_rfl) ?_
        simp only [Act.put, List.setIfInBounds_toArray, List.set_cons_zero, List.set_cons_succ]
        refine st_run (v := .bool false) (.bool false) (by kernel_rfl) (by kernel_rfl) rfl ?_
        simp only [Act.put, List.setIfInBounds_toArray, List.set_cons_zero, List.set_cons_succ]
        refine st_run (v := .bool false) (.bool false) (by kernel_rfl) (by kernel_rfl) rfl ?_
        simp only [Act.put, List.setIfInBounds_toArray, List.set_cons_zero, List.set_cons_succ]
        refine st_run (v := .bool false) (.bool false) (by kernel_rfl) (by kernel_rfl) rfl ?_
        simp only [Act.put, List.setIfInBounds_toArray, List.set_cons_zero, List.set_cons_succ]
        refine st_run (v := .bool false) (.bool false) (by kernel_rfl) (by kernel_rfl) rfl ?_
        simp only [Act.put, List.setIfInBounds_toArray, List.set_cons_zero, List.set_cons_succ]
        refine st_nil ?_
        clear cT
        go_upto_region 9 with fail
        have c1 := HQ4.out.cell (i := 1) rfl
        have c2 := HQ4.out.cell (i := 2) rfl
        have z2 := RowV.z (i := 2) HQ4.out
        have HQ5 := Lib.hid (row_set2 (x := t0) HQ4.out)
        have HB5 := Lib.hid (HB4.out.setCell (Nat.le_refl _) (.int .i64 t0) : Below w.heap.size w (u2.setCell ⟨w.heap.size, 2, none⟩ (.int .i64 t0)))
        clear HQ4 HB4
        go_wp2_with (first | ((show wpList _ _ _ (⟨_, .load _ _, _, _, _, _⟩ :: _) _ _); refine wpList_load_midw (by rfl) 50 _ rfl w.heap.size 0 rfl [.int .i64 (A : Int), .int .i64 t0, .int .i64 t0] _ (cs_rows HQ5.out).1 Tryd.underlying50 rfl (HI1.out _) ?_) | ((show wpList _ _ _ (⟨_, .load _ _, _, _, _, _⟩ :: _) _ _); refine wpList_load_midw (by rfl) 38 _ rfl w.heap.size 3 rfl L _ (cs_rows HQ5.out).2 Tryd.underlying38 rfl HI2.out ?_))
        refine (HC1.out _ (HP.out.below HB5.out)).mono ?_
        rintro e u3 ⟨m2, j2, p2, he, hb⟩
        subst he
        clear c1 c2 z2
        have HQ6 := Lib.hid ((HQ5.out.up hb).alloc (.cells #[.int .i64 m2, .int .i64 j2] 55))
        have hbx := HB5.out.trans (hb.mono HB5.out.size)
        have HB6 := Lib.hid (hbx.alloc hbx.size (.cells #[.int .i64 m2, .int .i64 j2] 55))
        have I2_6 := Lib.hid (RowV.of_alloc u3 55 [.int .i64 m2, .int .i64 j2])
        clear hb hbx HQ5 HB5 HC1
        go_wp2_with (first | ((show wpList _ _ _ (⟨_, .load _ _, _, _, _, _⟩ :: _) _ _); refine wpList_load_midw (by rfl) 50 _ rfl w.heap.size 0 rfl [.int .i64 (A : Int), .int .i64 t0, .int .i64 t0] _ (cs_rows HQ6.out).1 Tryd.underlying50 rfl (HI1.out _) ?_) | ((show wpList _ _ _ (⟨_, .load _ _, _, _, _, _⟩ :: _) _ _); refine wpList_load_midw (by rfl) 38 _ rfl w.heap.size 3 rfl L _ (cs_rows HQ6.out).2 Tryd.underlying38 rfl HI2.out ?_))
        refine (HC2.out _ (HP.out.below HB6.out)).mono ?_
        rintro e u4 ⟨m3, j3, p3, he, hb⟩
        subst he
        have HQ7 := Lib.hid ((HQ6.out.up hb).alloc (.cells #[.int .i64 m3, .int .i64 j3] 55))
        have I2_7 := Lib.hid ((I2_6.out.up hb).alloc (.cells #[.int .i64 m3, .int .i64 j3] 55))
        have hbx := HB6.out.trans (hb.mono HB6.out.size)
        have HB7 := Lib.hid (hbx.alloc hbx.size (.cells #[.int .i64 m3, .int .i64 j3] 55))
        have I3_7 := Lib.hid (RowV.of_alloc u4 55 [.int .i64 m3, .int .i64 j3])
        have c7 := HQ7.out.cell (i := 1) rfl
        clear hb hbx HQ6 HB6 HC2 I2_6
        go_wp2_with fail
        refine (HC3.out _).mono ?_
        rintro e u5 ⟨m4, j4, p4, he, hb⟩
        subst he
        obtain ⟨W, hW⟩ : ∃ W, W = u5.alloc (.cells #[.int .i64 m4, .int .i64 j4] 55) := ⟨_, rfl⟩
        have hbx := HB7.out.trans (hb.mono HB7.out.size)
        have HB8 : Hid (Below w.heap.size w W) := Lib.hid (by rw [hW]; exact hbx.alloc hbx.size _)
        have I2 : RowV W u3.heap.size 55 [.int .i64 m2, .int .i64 j2] := by rw [hW]; exact (I2_7.out.up hb).alloc _
        have I3 : RowV W u4.heap.size 55 [.int .i64 m3, .int .i64 j3] := by rw [hW]; exact (I3_7.out.up hb).alloc _
        have I4 : RowV W u5.heap.size 55 [.int .i64 m4, .int .i64 j4] := by rw [hW]; exact RowV.of_alloc u5 _ _
        have HWE := Lib.hid hW
        have a0 := RowV.c0 I2
        have a1 := RowV.c1 I2
        have b0 := RowV.c0 I3
        have b1 := RowV.c1 I3
        have d0 := RowV.c0 I4
        have d1 := RowV.c1 I4
        clear hb hbx hW HQ7 HB7 I2_7 I3_7 HC3 c7 I2 I3 I4
        obtain ⟨⟨x1, x2, x3⟩, ⟨y1, y2, y3⟩, ⟨z1, z2, z3⟩, q1, q2⟩ := HX.out _ _ _ _ _ _ p2 p3 p4
        have f1 : decide (m2 < 0) = false := decide_eq_false (by omega)
        have f2 : decide (1000000000 < j2) = false := decide_eq_false (by omega)
        have f3 : decide (m3 < 0) = false := decide_eq_false (by omega)
        have f4 : decide (1000000000 < j3) = false := decide_eq_false (by omega)
        have f5 : decide (m4 < 0) = false := decide_eq_false (by omega)
        have f6 : decide (1000000000 < j4) = false := decide_eq_false (by omega)
        have n1 := Int.mul_nonneg x1 y1
        have n2 : m2 * m3 ≤ 1000000000 * 1000000000 := Int.mul_le_mul (by omega) (by omega) y1 (by omega)
        have n3 := Int.mul_nonneg (show 0 ≤ j2 by omega) (show 0 ≤ j3 by omega)
        have n4 : j2 * j3 ≤ 1000000000 * 1000000000 := Int.mul_le_mul x3 y3 (by omega) (by omega)
        obtain ⟨s1, hs1⟩ : ∃ s, s = m2 * m3 := ⟨_, rfl⟩
        obtain ⟨s2, hs2⟩ : ∃ s, s = j2 * j3 := ⟨_, rfl⟩
        obtain ⟨s3, hs3⟩ : ∃ s, s = 1000 * j4 := ⟨_, rfl⟩
        obtain ⟨s4, hs4⟩ : ∃ s, s = 1000 * m4 := ⟨_, rfl⟩
        rw [← hs1] at n1 n2 q1
        rw [← hs2] at n3 n4 q2
        rw [← hs3] at q1
        rw [← hs4] at q2
        have w1 : IntKind.i64.wrap (m2 * m3) = s1 := by rw [← hs1]; exact IntWalk.i64_in _ (by omega)
        have w2 : IntKind.i64.wrap (j2 * j3) = s2 := by rw [← hs2]; exact IntWalk.i64_in _ (by omega)
        have w3 : IntKind.i64.wrap (1000 * j4) = s3 := by rw [← hs3]; exact IntWalk.i64_in _ (by omega)
        have w4 : IntKind.i64.wrap (1000 * m4) = s4 := by rw [← hs4]; exact IntWalk.i64_in _ (by omega)
        have f7 : decide (s1 ≤ s3) = true := decide_eq_true q1
        have f8 : decide (s4 ≤ s2) = true := decide_eq_true q2
        have W1 := Lib.hid w1
        have W2 := Lib.hid w2
        have W3 := Lib.hid w3
        have W4 := Lib.hid w4
        have F1' := Lib.hid f1
        have F2' := Lib.hid f2
        have F3' := Lib.hid f3
        have F4' := Lib.hid f4
        have F5' := Lib.hid f5
        have F6' := Lib.hid f6
        have F7' := Lib.hid f7
        have F8' := Lib.hid f8
        clear w1 w2 w3 w4 f1 f2 f3 f4 f5 f6 f7 f8 n1 n2 n3 n4 hs1 hs2 hs3 hs4 q1 q2 x1 x2 x3 y1 y2 y3 z1 z2 z3 p2 p3 p4 HX
        go_upto_region 13 with fail
        rw [← HWE.out]
        clear HWE
        refine st_in ?_
        refine st_run (v := .int .i64 0) (.int .i64 0) (by kernel_rfl) (by kernel_rfl) rfl ?_
        simp only [Act.put, List.setIfInBounds_toArray, List.set_cons_zero, List.set_cons_succ]
        refine st_run (v := .bool false) (.bool false) (by kernel_rfl) (by kernel_rfl) rfl ?_
        simp only [Act.put, List.setIfInBounds_toArray, List.set_cons_zero, List.set_cons_succ]
        refine st_run (v := .bool false) (.bool false) (by kernel_rfl) (by kernel_rfl) rfl ?_
        simp only [Act.put, List.setIfInBounds_toArray, List.set_cons_zero, List.set_cons_succ]
        refine st_run (v := .int .i64 0) (.int .i64 0) (by kernel_rfl) (by kernel_rfl) rfl ?_
        simp only [Act.put, List.setIfInBounds_toArray, List.set_cons_zero, List.set_cons_succ]
        refine st_run (v := .bool false) (.bool false) (by kernel_rfl) (by kernel_rfl) rfl ?_
        simp only [Act.put, List.setIfInBounds_toArray, List.set_cons_zero, List.set_cons_succ]
        refine st_run (v := .bool false) (.bool false) (by kernel_rfl) (by kernel_rfl) rfl ?_
        simp only [Act.put, List.setIfInBounds_toArray, List.set_cons_zero, List.set_cons_succ]
        refine st_run (v := .bool false) (.bool false) (by kernel_rfl) (by kernel_rfl) rfl ?_
        simp only [Act.put, List.setIfInBounds_toArray, List.set_cons_zero, List.set_cons_succ]
        refine st_run (v := .int .i64 0) (.int .i64 0) (by kernel_rfl) (by kernel_rfl) rfl ?_
        simp only [Act.put, List.setIfInBounds_toArray, List.set_cons_zero, List.set_cons_succ]
        refine st_run (v := .bool false) (.bool false) (by kernel_rfl) (by kernel_rfl) rfl ?_
        simp only [Act.put, List.setIfInBounds_toArray, List.set_cons_zero, List.set_cons_succ]
        refine st_run (v := .bool false) (.bool false) (by kernel_rfl) (by kernel_rfl) rfl ?_
        simp only [Act.put, List.setIfInBounds_toArray, List.set_cons_zero, List.set_cons_succ]
        refine st_run (v := .bool false) (.bool false) (by kernel_rfl) (by kernel_rfl) rfl ?_
        simp only [Act.put, List.setIfInBounds_toArray, List.set_cons_zero, List.set_cons_succ]
        refine st_run (v := .pointer (some ⟨u3.heap.size, 0, none⟩)) (.pointer (some ⟨u3.heap.size, 0, none⟩)) (by kernel_rfl) (by kernel_rfl) rfl ?_
        simp only [Act.put, List.setIfInBounds_toArray, List.set_cons_zero, List.set_cons_succ]
        refine st_load m2 (.tmp 119) ⟨u3.heap.size, 0, none⟩ (by kernel_rfl) rfl (by kernel_rfl) a0 ?_
        simp only [Act.put, List.setIfInBounds_toArray, List.set_cons_zero, List.set_cons_succ]
        refine st_run (v := .bool (decide (m2 < 0))) (.bool false) (by kernel_rfl) (by kernel_rfl) (congrArg Value.bool F1'.out) ?_
        simp only [Act.put, List.setIfInBounds_toArray, List.set_cons_zero, List.set_cons_succ]
        refine st_run (v := .bool false) (.bool false) (by kernel_rfl) (by kernel_rfl) rfl ?_
        simp only [Act.put, List.setIfInBounds_toArray, List.set_cons_zero, List.set_cons_succ]
        refine st_run (v := .bool false) (.bool false) (by kernel_rfl) (by kernel_rfl) rfl ?_
        simp only [Act.put, List.setIfInBounds_toArray, List.set_cons_zero, List.set_cons_succ]
        refine st_run (v := .pointer (some ⟨u3.heap.size, 1, none⟩)) (.pointer (some ⟨u3.heap.size, 1, none⟩)) (by kernel_rfl) (by kernel_rfl) rfl ?_
        simp only [Act.put, List.setIfInBounds_toArray, List.set_cons_zero, List.set_cons_succ]
        refine st_load j2 (.tmp 124) ⟨u3.heap.size, 1, none⟩ (by kernel_rfl) rfl (by kernel_rfl) a1 ?_
        simp only [Act.put, List.setIfInBounds_toArray, List.set_cons_zero, List.set_cons_succ]
        refine st_run (v := .bool (decide (1000000000 < j2))) (.bool false) (by kernel_rfl) (by kernel_rfl) (congrArg Value.bool F2'.out) ?_
        simp only [Act.put, List.setIfInBounds_toArray, List.set_cons_zero, List.set_cons_succ]
        refine st_run (v := .bool false) (.bool false) (by kernel_rfl) (by kernel_rfl) rfl ?_
        simp only [Act.put, List.setIfInBounds_toArray, List.set_cons_zero, List.set_cons_succ]
        refine st_run (v := .bool false) (.bool false) (by kernel_rfl) (by kernel_rfl) rfl ?_
        simp only [Act.put, List.setIfInBounds_toArray, List.set_cons_zero, List.set_cons_succ]
        refine st_run (v := .pointer (some ⟨u4.heap.size, 0, none⟩)) (.pointer (some ⟨u4.heap.size, 0, none⟩)) (by kernel_rfl) (by kernel_rfl) rfl ?_
        simp only [Act.put, List.setIfInBounds_toArray, List.set_cons_zero, List.set_cons_succ]
        refine st_load m3 (.tmp 129) ⟨u4.heap.size, 0, none⟩ (by kernel_rfl) rfl (by kernel_rfl) b0 ?_
        simp only [Act.put, List.setIfInBounds_toArray, List.set_cons_zero, List.set_cons_succ]
        refine st_run (v := .bool (decide (m3 < 0))) (.bool false) (by kernel_rfl) (by kernel_rfl) (congrArg Value.bool F3'.out) ?_
        simp only [Act.put, List.setIfInBounds_toArray, List.set_cons_zero, List.set_cons_succ]
        refine st_run (v := .bool false) (.bool false) (by kernel_rfl) (by kernel_rfl) rfl ?_
        simp only [Act.put, List.setIfInBounds_toArray, List.set_cons_zero, List.set_cons_succ]
        refine st_run (v := .bool false) (.bool false) (by kernel_rfl) (by kernel_rfl) rfl ?_
        simp only [Act.put, List.setIfInBounds_toArray, List.set_cons_zero, List.set_cons_succ]
        refine st_run (v := .pointer (some ⟨u4.heap.size, 1, none⟩)) (.pointer (some ⟨u4.heap.size, 1, none⟩)) (by kernel_rfl) (by kernel_rfl) rfl ?_
        simp only [Act.put, List.setIfInBounds_toArray, List.set_cons_zero, List.set_cons_succ]
        refine st_load j3 (.tmp 134) ⟨u4.heap.size, 1, none⟩ (by kernel_rfl) rfl (by kernel_rfl) b1 ?_
        simp only [Act.put, List.setIfInBounds_toArray, List.set_cons_zero, List.set_cons_succ]
        refine st_run (v := .bool (decide (1000000000 < j3))) (.bool false) (by kernel_rfl) (by kernel_rfl) (congrArg Value.bool F4'.out) ?_
        simp only [Act.put, List.setIfInBounds_toArray, List.set_cons_zero, List.set_cons_succ]
        refine st_run (v := .bool false) (.bool false) (by kernel_rfl) (by kernel_rfl) rfl ?_
        simp only [Act.put, List.setIfInBounds_toArray, List.set_cons_zero, List.set_cons_succ]
        refine st_run (v := .bool false) (.bool false) (by kernel_rfl) (by kernel_rfl) rfl ?_
        simp only [Act.put, List.setIfInBounds_toArray, List.set_cons_zero, List.set_cons_succ]
        refine st_run (v := .pointer (some ⟨u5.heap.size, 0, none⟩)) (.pointer (some ⟨u5.heap.size, 0, none⟩)) (by kernel_rfl) (by kernel_rfl) rfl ?_
        simp only [Act.put, List.setIfInBounds_toArray, List.set_cons_zero, List.set_cons_succ]
        refine st_load m4 (.tmp 139) ⟨u5.heap.size, 0, none⟩ (by kernel_rfl) rfl (by kernel_rfl) d0 ?_
        simp only [Act.put, List.setIfInBounds_toArray, List.set_cons_zero, List.set_cons_succ]
        refine st_run (v := .bool (decide (m4 < 0))) (.bool false) (by kernel_rfl) (by kernel_rfl) (congrArg Value.bool F5'.out) ?_
        simp only [Act.put, List.setIfInBounds_toArray, List.set_cons_zero, List.set_cons_succ]
        refine st_run (v := .bool false) (.bool false) (by kernel_rfl) (by kernel_rfl) rfl ?_
        simp only [Act.put, List.setIfInBounds_toArray, List.set_cons_zero, List.set_cons_succ]
        refine st_run (v := .bool false) (.bool false) (by kernel_rfl) (by kernel_rfl) rfl ?_
        simp only [Act.put, List.setIfInBounds_toArray, List.set_cons_zero, List.set_cons_succ]
        refine st_run (v := .pointer (some ⟨u5.heap.size, 1, none⟩)) (.pointer (some ⟨u5.heap.size, 1, none⟩)) (by kernel_rfl) (by kernel_rfl) rfl ?_
        simp only [Act.put, List.setIfInBounds_toArray, List.set_cons_zero, List.set_cons_succ]
        refine st_load j4 (.tmp 144) ⟨u5.heap.size, 1, none⟩ (by kernel_rfl) rfl (by kernel_rfl) d1 ?_
        simp only [Act.put, List.setIfInBounds_toArray, List.set_cons_zero, List.set_cons_succ]
        refine st_run (v := .bool (decide (1000000000 < j4))) (.bool false) (by kernel_rfl) (by kernel_rfl) (congrArg Value.bool F6'.out) ?_
        simp only [Act.put, List.setIfInBounds_toArray, List.set_cons_zero, List.set_cons_succ]
        refine st_run (v := .bool false) (.bool false) (by kernel_rfl) (by kernel_rfl) rfl ?_
        simp only [Act.put, List.setIfInBounds_toArray, List.set_cons_zero, List.set_cons_succ]
        refine st_nil ?_
        go_upto_region 15 with fail
        refine st_in ?_
        refine st_run (v := .pointer (some ⟨u3.heap.size, 0, none⟩)) (.pointer (some ⟨u3.heap.size, 0, none⟩)) (by kernel_rfl) (by kernel_rfl) rfl ?_
        simp only [Act.put, List.setIfInBounds_toArray, List.set_cons_zero, List.set_cons_succ]
        refine st_load m2 (.tmp 148) ⟨u3.heap.size, 0, none⟩ (by kernel_rfl) rfl (by kernel_rfl) a0 ?_
        simp only [Act.put, List.setIfInBounds_toArray, List.set_cons_zero, List.set_cons_succ]
        refine st_run (v := .pointer (some ⟨u4.heap.size, 0, none⟩)) (.pointer (some ⟨u4.heap.size, 0, none⟩)) (by kernel_rfl) (by kernel_rfl) rfl ?_
        simp only [Act.put, List.setIfInBounds_toArray, List.set_cons_zero, List.set_cons_succ]
        refine st_load m3 (.tmp 150) ⟨u4.heap.size, 0, none⟩ (by kernel_rfl) rfl (by kernel_rfl) b0 ?_
        simp only [Act.put, List.setIfInBounds_toArray, List.set_cons_zero, List.set_cons_succ]
        refine st_run (v := .int .i64 (IntKind.i64.wrap (m2 * m3))) (.int .i64 s1) (by kernel_rfl) (by kernel_rfl) (congrArg (Value.int .i64) W1.out) ?_
        simp only [Act.put, List.setIfInBounds_toArray, List.set_cons_zero, List.set_cons_succ]
        refine st_run (v := .pointer (some ⟨u5.heap.size, 1, none⟩)) (.pointer (some ⟨u5.heap.size, 1, none⟩)) (by kernel_rfl) (by kernel_rfl) rfl ?_
        simp only [Act.put, List.setIfInBounds_toArray, List.set_cons_zero, List.set_cons_succ]
        refine st_load j4 (.tmp 153) ⟨u5.heap.size, 1, none⟩ (by kernel_rfl) rfl (by kernel_rfl) d1 ?_
        simp only [Act.put, List.setIfInBounds_toArray, List.set_cons_zero, List.set_cons_succ]
        refine st_run (v := .int .i64 (IntKind.i64.wrap (1000 * j4))) (.int .i64 s3) (by kernel_rfl) (by kernel_rfl) (congrArg (Value.int .i64) W3.out) ?_
        simp only [Act.put, List.setIfInBounds_toArray, List.set_cons_zero, List.set_cons_succ]
        refine st_run (v := .bool (decide (s1 ≤ s3))) (.bool true) (by kernel_rfl) (by kernel_rfl) (congrArg Value.bool F7'.out) ?_
        simp only [Act.put, List.setIfInBounds_toArray, List.set_cons_zero, List.set_cons_succ]
        refine st_run (v := .bool true) (.bool true) (by kernel_rfl) (by kernel_rfl) rfl ?_
        simp only [Act.put, List.setIfInBounds_toArray, List.set_cons_zero, List.set_cons_succ]
        refine st_run (v := .pointer (some ⟨u3.heap.size, 1, none⟩)) (.pointer (some ⟨u3.heap.size, 1, none⟩)) (by kernel_rfl) (by kernel_rfl) rfl ?_
        simp only [Act.put, List.setIfInBounds_toArray, List.set_cons_zero, List.set_cons_succ]
        refine st_load j2 (.tmp 158) ⟨u3.heap.size, 1, none⟩ (by kernel_rfl) rfl (by kernel_rfl) a1 ?_
        simp only [Act.put, List.setIfInBounds_toArray, List.set_cons_zero, List.set_cons_succ]
        refine st_run (v := .pointer (some ⟨u4.heap.size, 1, none⟩)) (.pointer (some ⟨u4.heap.size, 1, none⟩)) (by kernel_rfl) (by kernel_rfl) rfl ?_
        simp only [Act.put, List.setIfInBounds_toArray, List.set_cons_zero, List.set_cons_succ]
        refine st_load j3 (.tmp 160) ⟨u4.heap.size, 1, none⟩ (by kernel_rfl) rfl (by kernel_rfl) b1 ?_
        simp only [Act.put, List.setIfInBounds_toArray, List.set_cons_zero, List.set_cons_succ]
        refine st_run (v := .int .i64 (IntKind.i64.wrap (j2 * j3))) (.int .i64 s2) (by kernel_rfl) (by kernel_rfl) (congrArg (Value.int .i64) W2.out) ?_
        simp only [Act.put, List.setIfInBounds_toArray, List.set_cons_zero, List.set_cons_succ]
        refine st_run (v := .pointer (some ⟨u5.heap.size, 0, none⟩)) (.pointer (some ⟨u5.heap.size, 0, none⟩)) (by kernel_rfl) (by kernel_rfl) rfl ?_
        simp only [Act.put, List.setIfInBounds_toArray, List.set_cons_zero, List.set_cons_succ]
        refine st_load m4 (.tmp 163) ⟨u5.heap.size, 0, none⟩ (by kernel_rfl) rfl (by kernel_rfl) d0 ?_
        simp only [Act.put, List.setIfInBounds_toArray, List.set_cons_zero, List.set_cons_succ]
        refine st_run (v := .int .i64 (IntKind.i64.wrap (1000 * m4))) (.int .i64 s4) (by kernel_rfl) (by kernel_rfl) (congrArg (Value.int .i64) W4.out) ?_
        simp only [Act.put, List.setIfInBounds_toArray, List.set_cons_zero, List.set_cons_succ]
        refine st_run (v := .bool (decide (s4 ≤ s2))) (.bool true) (by kernel_rfl) (by kernel_rfl) (congrArg Value.bool F8'.out) ?_
        simp only [Act.put, List.setIfInBounds_toArray, List.set_cons_zero, List.set_cons_succ]
        refine st_run (v := .bool true) (.bool true) (by kernel_rfl) (by kernel_rfl) rfl ?_
        simp only [Act.put, List.setIfInBounds_toArray, List.set_cons_zero, List.set_cons_succ]
        refine st_run (v := .bool true) (.bool true) (by kernel_rfl) (by kernel_rfl) rfl ?_
        simp only [Act.put, List.setIfInBounds_toArray, List.set_cons_zero, List.set_cons_succ]
        refine st_call 24 #[] (R := fun v w' => v = .bool true ∧ Below W.heap.size W w') (by kernel_rfl) (by kernel_rfl) ((awake6_any _ (HP.out.below HB8.out)).mono (by rintro e w' ⟨he, hb⟩; exact ⟨_, he, rfl, hb⟩)) ?_
        rintro v v3 ⟨rfl, hb⟩
        have HB9 := Lib.hid (HB8.out.trans (hb.mono HB8.out.size))
        clear hb
        simp only [Act.put, List.setIfInBounds_toArray, List.set_cons_zero, List.set_cons_succ]
        refine st_run (v := .bool true) (.bool true) (by kernel_rfl) (by kernel_rfl) rfl ?_
        simp only [Act.put, List.setIfInBounds_toArray, List.set_cons_zero, List.set_cons_succ]
        refine st_run (v := .bool true) (.bool true) (by kernel_rfl) (by kernel_rfl) rfl ?_
        simp only [Act.put, List.setIfInBounds_toArray, List.set_cons_zero, List.set_cons_succ]
        refine st_nil ?_
        go_wp2
        go_ret
        exact ⟨rfl, HB9.out⟩
      · subst h
        obtain rfl := o3 rfl
        have k1 := Lib.hid (show decide (t < t) = false from decide_eq_false (by omega))
        have k2 := Lib.hid (show (m1 != m1) = false by simp)
        have k4 := Lib.hid (show (t == t) = true by simp)
        clear o1 o2 o3 g1 g2 HY
        have cT := HQ4.out.cell (i := 2) rfl
        go_upto_region 7 with fail
        refine st_in ?_
        refine st_run (v := .int .i64 0) (.int .i64 0) (by kernel_rfl) (by kernel_rfl) rfl ?_
        simp only [Act.put, List.setIfInBounds_toArray, List.set_cons_zero, List.set_cons_succ]
        refine st_run (v := .bool false) (.bool false) (by kernel_rfl) (by kernel_rfl) rfl ?_
        simp only [Act.put, List.setIfInBounds_toArray, List.set_cons_zero, List.set_cons_succ]
        refine st_run (v := .bool false) (.bool false) (by kernel_rfl) (by kernel_rfl) rfl ?_
        simp only [Act.put, List.setIfInBounds_toArray, List.set_cons_zero, List.set_cons_succ]
        refine st_run (v := .int .i64 0) (.int .i64 0) (by kernel_rfl) (by kernel_rfl) rfl ?_
        simp only [Act.put, List.setIfInBounds_toArray, List.set_cons_zero, List.set_cons_succ]
        refine st_run (v := .bool true) (.bool true) (by kernel_rfl) (by kernel_rfl) rfl ?_
        simp only [Act.put, List.setIfInBounds_toArray, List.set_cons_zero, List.set_cons_succ]
        refine st_run (v := .bool true) (.bool true) (by kernel_rfl) (by kernel_rfl) rfl ?_
        simp only [Act.put, List.setIfInBounds_toArray, List.set_cons_zero, List.set_cons_succ]
        refine st_run (v := .pointer (some ⟨w.heap.size, 0, none⟩)) (.pointer (some ⟨w.heap.size, 0, none⟩)) (by kernel_rfl) (by kernel_rfl) rfl ?_
        simp only [Act.put, List.setIfInBounds_toArray, List.set_cons_zero, List.set_cons_succ]
        refine st_run (v := .pointer (some ⟨w.heap.size, 2, none⟩)) (.pointer (some ⟨w.heap.size, 2, none⟩)) (by kernel_rfl) (by kernel_rfl) rfl ?_
        simp only [Act.put, List.setIfInBounds_toArray, List.set_cons_zero, List.set_cons_succ]
        refine st_load t (.tmp 43) ⟨w.heap.size, 2, none⟩ (by kernel_rfl) rfl (by kernel_rfl) cT ?_
        simp only [Act.put, List.setIfInBounds_toArray, List.set_cons_zero, List.set_cons_succ]
        refine st_run (v := .int .i64 t) (.int .i64 t) (by kernel_rfl) (by kernel_rfl) rfl ?_
        simp only [Act.put, List.setIfInBounds_toArray, List.set_cons_zero, List.set_cons_succ]
        refine st_run (v := .bool (decide (t < t))) (.bool false) (by kernel_rfl) (by kernel_rfl) (congrArg Value.bool k1.out) ?_
        simp only [Act.put, List.setIfInBounds_toArray, List.set_cons_zero, List.set_cons_succ]
        refine st_run (v := .bool false) (.bool false) (by kernel_rfl) (by kernel_rfl) rfl ?_
        simp only [Act.put, List.setIfInBounds_toArray, List.set_cons_zero, List.set_cons_succ]
        refine st_skip (by kernel_rfl) ?_
        simp only [Act.put, List.setIfInBounds_toArray, List.set_cons_zero, List.set_cons_succ]
        refine st_skip (by kernel_rfl) ?_
        simp only [Act.put, List.setIfInBounds_toArray, List.set_cons_zero, List.set_cons_succ]
        refine st_skip (by kernel_rfl) ?_
        simp only [Act.put, List.setIfInBounds_toArray, List.set_cons_zero, List.set_cons_succ]
        refine st_run (v := .bool false) (.bool false) (by kernel_rfl) (by kernel_rfl) rfl ?_
        simp only [Act.put, List.setIfInBounds_toArray, List.set_cons_zero, List.set_cons_succ]
        refine st_run (v := .bool false) (.bool false) (by kernel_rfl) (by kernel_rfl) rfl ?_
        simp only [Act.put, List.setIfInBounds_toArray, List.set_cons_zero, List.set_cons_succ]
        refine st_run (v := .pointer (some ⟨w.heap.size, 0, none⟩)) (.pointer (some ⟨w.heap.size, 0, none⟩)) (by kernel_rfl) (by kernel_rfl) rfl ?_
        simp only [Act.put, List.setIfInBounds_toArray, List.set_cons_zero, List.set_cons_succ]
        refine st_run (v := .pointer (some ⟨w.heap.size, 2, none⟩)) (.pointer (some ⟨w.heap.size, 2, none⟩)) (by kernel_rfl) (by kernel_rfl) rfl ?_
        simp only [Act.put, List.setIfInBounds_toArray, List.set_cons_zero, List.set_cons_succ]
        refine st_load t (.tmp 54) ⟨w.heap.size, 2, none⟩ (by kernel_rfl) rfl (by kernel_rfl) cT ?_
        simp only [Act.put, List.setIfInBounds_toArray, List.set_cons_zero, List.set_cons_succ]
        refine st_run (v := .int .i64 t) (.int .i64 t) (by kernel_rfl) (by kernel_rfl) rfl ?_
        simp only [Act.put, List.setIfInBounds_toArray, List.set_cons_zero, List.set_cons_succ]
        refine st_run (v := .bool (decide (t < t))) (.bool false) (by kernel_rfl) (by kernel_rfl) (congrArg Value.bool k1.out) ?_
        simp only [Act.put, List.setIfInBounds_toArray, List.set_cons_zero, List.set_cons_succ]
        refine st_run (v := .bool false) (.bool false) (by kernel_rfl) (by kernel_rfl) rfl ?_
        simp only [Act.put, List.setIfInBounds_toArray, List.set_cons_zero, List.set_cons_succ]
        refine st_skip (by kernel_rfl) ?_
        simp only [Act.put, List.setIfInBounds_toArray, List.set_cons_zero, List.set_cons_succ]
        refine st_skip (by kernel_rfl) ?_
        simp only [Act.put, List.setIfInBounds_toArray, List.set_cons_zero, List.set_cons_succ]
        refine st_skip (by kernel_rfl) ?_
        simp only [Act.put, List.setIfInBounds_toArray, List.set_cons_zero, List.set_cons_succ]
        refine st_run (v := .bool false) (.bool false) (by kernel_rfl) (by kernel_rfl) rfl ?_
        simp only [Act.put, List.setIfInBounds_toArray, List.set_cons_zero, List.set_cons_succ]
        refine st_run (v := .bool false) (.bool false) (by kernel_rfl) (by kernel_rfl) rfl ?_
        simp only [Act.put, List.setIfInBounds_toArray, List.set_cons_zero, List.set_cons_succ]
        refine st_run (v := .bool false) (.bool false) (by kernel_rfl) (by kernel_rfl) rfl ?_
        simp only [Act.put, List.setIfInBounds_toArray, List.set_cons_zero, List.set_cons_succ]
        refine st_run (v := .pointer (some ⟨w.heap.size, 0, none⟩)) (.pointer (some ⟨w.heap.size, 0, none⟩)) (by kernel_rfl) (by kernel_rfl) rfl ?_
        simp only [Act.put, List.setIfInBounds_toArray, List.set_cons_zero, List.set_cons_succ]
        refine st_run (v := .pointer (some ⟨w.heap.size, 2, none⟩)) (.pointer (some ⟨w.heap.size, 2, none⟩)) (by kernel_rfl) (by kernel_rfl) rfl ?_
        simp only [Act.put, List.setIfInBounds_toArray, List.set_cons_zero, List.set_cons_succ]
        refine st_load t (.tmp 66) ⟨w.heap.size, 2, none⟩ (by kernel_rfl) rfl (by kernel_rfl) cT ?_
        simp only [Act.put, List.setIfInBounds_toArray, List.set_cons_zero, List.set_cons_succ]
        refine st_run (v := .int .i64 t) (.int .i64 t) (by kernel_rfl) (by kernel_rfl) rfl ?_
        simp only [Act.put, List.setIfInBounds_toArray, List.set_cons_zero, List.set_cons_succ]
        refine st_run (v := .bool (t == t)) (.bool true) (by kernel_rfl) (by kernel_rfl) (congrArg Value.bool k4.out) ?_
        simp only [Act.put, List.setIfInBounds_toArray, List.set_cons_zero, List.set_cons_succ]
        refine st_run (v := .bool true) (.bool true) (by kernel_rfl) (by kernel_rfl) rfl ?_
        simp only [Act.put, List.setIfInBounds_toArray, List.set_cons_zero, List.set_cons_succ]
        refine st_run (v := .int .i64 m1) (.int .i64 m1) (by kernel_rfl) (by kernel_rfl) rfl ?_
        simp only [Act.put, List.setIfInBounds_toArray, List.set_cons_zero, List.set_cons_succ]
        refine st_run (v := .int .i64 m1) (.int .i64 m1) (by kernel_rfl) (by kernel_rfl) rfl ?_
        simp only [Act.put, List.setIfInBounds_toArray, List.set_cons_zero, List.set_cons_succ]
        refine st_run (v := .bool (m1 != m1)) (.bool false) (by kernel_rfl) (by kernel_rfl) (congrArg Value.bool k2.out) ?_
        simp only [Act.put, List.setIfInBounds_toArray, List.set_cons_zero, List.set_cons_succ]
        refine st_run (v := .bool false) (.bool false) (by kernel_rfl) (by kernel_rfl) rfl ?_
        simp only [Act.put, List.setIfInBounds_toArray, List.set_cons_zero, List.set_cons_succ]
        refine st_run (v := .bool false) (.bool false) (by kernel_rfl) (by kernel_rfl) rfl ?_
        simp only [Act.put, List.setIfInBounds_toArray, List.set_cons_zero, List.set_cons_succ]
        refine st_run (v := .bool false) (.bool false) (by kernel_rfl) (by kernel_rfl) rfl ?_
        simp only [Act.put, List.setIfInBounds_toArray, List.set_cons_zero, List.set_cons_succ]
        refine st_run (v := .bool false) (.bool false) (by kernel_rfl) (by kernel_rfl) rfl ?_
        simp only [Act.put, List.setIfInBounds_toArray, List.set_cons_zero, List.set_cons_succ]
        refine st_nil ?_
        clear cT
        go_upto_region 9 with fail
        have c1 := HQ4.out.cell (i := 1) rfl
        have c2 := HQ4.out.cell (i := 2) rfl
        have z2 := RowV.z (i := 2) HQ4.out
        have HQ5 := Lib.hid (row_set2 (x := t0) HQ4.out)
        have HB5 := Lib.hid (HB4.out.setCell (Nat.le_refl _) (.int .i64 t0) : Below w.heap.size w (u2.setCell ⟨w.heap.size, 2, none⟩ (.int .i64 t0)))
        clear HQ4 HB4
        go_wp2_with (first | ((show wpList _ _ _ (⟨_, .load _ _, _, _, _, _⟩ :: _) _ _); refine wpList_load_midw (by rfl) 50 _ rfl w.heap.size 0 rfl [.int .i64 (A : Int), .int .i64 t0, .int .i64 t0] _ (cs_rows HQ5.out).1 Tryd.underlying50 rfl (HI1.out _) ?_) | ((show wpList _ _ _ (⟨_, .load _ _, _, _, _, _⟩ :: _) _ _); refine wpList_load_midw (by rfl) 38 _ rfl w.heap.size 3 rfl L _ (cs_rows HQ5.out).2 Tryd.underlying38 rfl HI2.out ?_))
        refine (HC1.out _ (HP.out.below HB5.out)).mono ?_
        rintro e u3 ⟨m2, j2, p2, he, hb⟩
        subst he
        clear c1 c2 z2
        have HQ6 := Lib.hid ((HQ5.out.up hb).alloc (.cells #[.int .i64 m2, .int .i64 j2] 55))
        have hbx := HB5.out.trans (hb.mono HB5.out.size)
        have HB6 := Lib.hid (hbx.alloc hbx.size (.cells #[.int .i64 m2, .int .i64 j2] 55))
        have I2_6 := Lib.hid (RowV.of_alloc u3 55 [.int .i64 m2, .int .i64 j2])
        clear hb hbx HQ5 HB5 HC1
        go_wp2_with (first | ((show wpList _ _ _ (⟨_, .load _ _, _, _, _, _⟩ :: _) _ _); refine wpList_load_midw (by rfl) 50 _ rfl w.heap.size 0 rfl [.int .i64 (A : Int), .int .i64 t0, .int .i64 t0] _ (cs_rows HQ6.out).1 Tryd.underlying50 rfl (HI1.out _) ?_) | ((show wpList _ _ _ (⟨_, .load _ _, _, _, _, _⟩ :: _) _ _); refine wpList_load_midw (by rfl) 38 _ rfl w.heap.size 3 rfl L _ (cs_rows HQ6.out).2 Tryd.underlying38 rfl HI2.out ?_))
        refine (HC2.out _ (HP.out.below HB6.out)).mono ?_
        rintro e u4 ⟨m3, j3, p3, he, hb⟩
        subst he
        have HQ7 := Lib.hid ((HQ6.out.up hb).alloc (.cells #[.int .i64 m3, .int .i64 j3] 55))
        have I2_7 := Lib.hid ((I2_6.out.up hb).alloc (.cells #[.int .i64 m3, .int .i64 j3] 55))
        have hbx := HB6.out.trans (hb.mono HB6.out.size)
        have HB7 := Lib.hid (hbx.alloc hbx.size (.cells #[.int .i64 m3, .int .i64 j3] 55))
        have I3_7 := Lib.hid (RowV.of_alloc u4 55 [.int .i64 m3, .int .i64 j3])
        have c7 := HQ7.out.cell (i := 1) rfl
        clear hb hbx HQ6 HB6 HC2 I2_6
        go_wp2_with fail
        refine (HC3.out _).mono ?_
        rintro e u5 ⟨m4, j4, p4, he, hb⟩
        subst he
        obtain ⟨W, hW⟩ : ∃ W, W = u5.alloc (.cells #[.int .i64 m4, .int .i64 j4] 55) := ⟨_, rfl⟩
        have hbx := HB7.out.trans (hb.mono HB7.out.size)
        have HB8 : Hid (Below w.heap.size w W) := Lib.hid (by rw [hW]; exact hbx.alloc hbx.size _)
        have I2 : RowV W u3.heap.size 55 [.int .i64 m2, .int .i64 j2] := by rw [hW]; exact (I2_7.out.up hb).alloc _
        have I3 : RowV W u4.heap.size 55 [.int .i64 m3, .int .i64 j3] := by rw [hW]; exact (I3_7.out.up hb).alloc _
        have I4 : RowV W u5.heap.size 55 [.int .i64 m4, .int .i64 j4] := by rw [hW]; exact RowV.of_alloc u5 _ _
        have HWE := Lib.hid hW
        have a0 := RowV.c0 I2
        have a1 := RowV.c1 I2
        have b0 := RowV.c0 I3
        have b1 := RowV.c1 I3
        have d0 := RowV.c0 I4
        have d1 := RowV.c1 I4
        clear hb hbx hW HQ7 HB7 I2_7 I3_7 HC3 c7 I2 I3 I4
        obtain ⟨⟨x1, x2, x3⟩, ⟨y1, y2, y3⟩, ⟨z1, z2, z3⟩, q1, q2⟩ := HX.out _ _ _ _ _ _ p2 p3 p4
        have f1 : decide (m2 < 0) = false := decide_eq_false (by omega)
        have f2 : decide (1000000000 < j2) = false := decide_eq_false (by omega)
        have f3 : decide (m3 < 0) = false := decide_eq_false (by omega)
        have f4 : decide (1000000000 < j3) = false := decide_eq_false (by omega)
        have f5 : decide (m4 < 0) = false := decide_eq_false (by omega)
        have f6 : decide (1000000000 < j4) = false := decide_eq_false (by omega)
        have m1 := Int.mul_nonneg x1 y1
        have n2 : m2 * m3 ≤ 1000000000 * 1000000000 := Int.mul_le_mul (by omega) (by omega) y1 (by omega)
        have n3 := Int.mul_nonneg (show 0 ≤ j2 by omega) (show 0 ≤ j3 by omega)
        have n4 : j2 * j3 ≤ 1000000000 * 1000000000 := Int.mul_le_mul x3 y3 (by omega) (by omega)
        obtain ⟨s1, hs1⟩ : ∃ s, s = m2 * m3 := ⟨_, rfl⟩
        obtain ⟨s2, hs2⟩ : ∃ s, s = j2 * j3 := ⟨_, rfl⟩
        obtain ⟨s3, hs3⟩ : ∃ s, s = 1000 * j4 := ⟨_, rfl⟩
        obtain ⟨s4, hs4⟩ : ∃ s, s = 1000 * m4 := ⟨_, rfl⟩
        rw [← hs1] at m1 n2 q1
        rw [← hs2] at n3 n4 q2
        rw [← hs3] at q1
        rw [← hs4] at q2
        have w1 : IntKind.i64.wrap (m2 * m3) = s1 := by rw [← hs1]; exact IntWalk.i64_in _ (by omega)
        have w2 : IntKind.i64.wrap (j2 * j3) = s2 := by rw [← hs2]; exact IntWalk.i64_in _ (by omega)
        have w3 : IntKind.i64.wrap (1000 * j4) = s3 := by rw [← hs3]; exact IntWalk.i64_in _ (by omega)
        have w4 : IntKind.i64.wrap (1000 * m4) = s4 := by rw [← hs4]; exact IntWalk.i64_in _ (by omega)
        have f7 : decide (s1 ≤ s3) = true := decide_eq_true q1
        have f8 : decide (s4 ≤ s2) = true := decide_eq_true q2
        have W1 := Lib.hid w1
        have W2 := Lib.hid w2
        have W3 := Lib.hid w3
        have W4 := Lib.hid w4
        have F1' := Lib.hid f1
        have F2' := Lib.hid f2
        have F3' := Lib.hid f3
        have F4' := Lib.hid f4
        have F5' := Lib.hid f5
        have F6' := Lib.hid f6
        have F7' := Lib.hid f7
        have F8' := Lib.hid f8
        clear w1 w2 w3 w4 f1 f2 f3 f4 f5 f6 f7 f8 m1 n2 n3 n4 hs1 hs2 hs3 hs4 q1 q2 x1 x2 x3 y1 y2 y3 z1 z2 z3 p2 p3 p4 HX
        go_upto_region 13 with fail
        rw [← HWE.out]
        clear HWE
        refine st_in ?_
        refine st_run (v := .int .i64 0) (.int .i64 0) (by kernel_rfl) (by kernel_rfl) rfl ?_
        simp only [Act.put, List.setIfInBounds_toArray, List.set_cons_zero, List.set_cons_succ]
        refine st_run (v := .bool false) (.bool false) (by kernel_rfl) (by kernel_rfl) rfl ?_
        simp only [Act.put, List.setIfInBounds_toArray, List.set_cons_zero, List.set_cons_succ]
        refine st_run (v := .bool false) (.bool false) (by kernel_rfl) (by kernel_rfl) rfl ?_
        simp only [Act.put, List.setIfInBounds_toArray, List.set_cons_zero, List.set_cons_succ]
        refine st_run (v := .int .i64 0) (.int .i64 0) (by kernel_rfl) (by kernel_rfl) rfl ?_
        simp only [Act.put, List.setIfInBounds_toArray, List.set_cons_zero, List.set_cons_succ]
        refine st_run (v := .bool false) (.bool false) (by kernel_rfl) (by kernel_rfl) rfl ?_
        simp only [Act.put, List.setIfInBounds_toArray, List.set_cons_zero, List.set_cons_succ]
        refine st_run (v := .bool false) (.bool false) (by kernel_rfl) (by kernel_rfl) rfl ?_
        simp only [Act.put, List.setIfInBounds_toArray, List.set_cons_zero, List.set_cons_succ]
        refine st_run (v := .bool false) (.bool false) (by kernel_rfl) (by kernel_rfl) rfl ?_
        simp only [Act.put, List.setIfInBounds_toArray, List.set_cons_zero, List.set_cons_succ]
        refine st_run (v := .int .i64 0) (.int .i64 0) (by kernel_rfl) (by kernel_rfl) rfl ?_
        simp only [Act.put, List.setIfInBounds_toArray, List.set_cons_zero, List.set_cons_succ]
        refine st_run (v := .bool false) (.bool false) (by kernel_rfl) (by kernel_rfl) rfl ?_
        simp only [Act.put, List.setIfInBounds_toArray, List.set_cons_zero, List.set_cons_succ]
        refine st_run (v := .bool false) (.bool false) (by kernel_rfl) (by kernel_rfl) rfl ?_
        simp only [Act.put, List.setIfInBounds_toArray, List.set_cons_zero, List.set_cons_succ]
        refine st_run (v := .bool false) (.bool false) (by kernel_rfl) (by kernel_rfl) rfl ?_
        simp only [Act.put, List.setIfInBounds_toArray, List.set_cons_zero, List.set_cons_succ]
        refine st_run (v := .pointer (some ⟨u3.heap.size, 0, none⟩)) (.pointer (some ⟨u3.heap.size, 0, none⟩)) (by kernel_rfl) (by kernel_rfl) rfl ?_
        simp only [Act.put, List.setIfInBounds_toArray, List.set_cons_zero, List.set_cons_succ]
        refine st_load m2 (.tmp 119) ⟨u3.heap.size, 0, none⟩ (by kernel_rfl) rfl (by kernel_rfl) a0 ?_
        simp only [Act.put, List.setIfInBounds_toArray, List.set_cons_zero, List.set_cons_succ]
        refine st_run (v := .bool (decide (m2 < 0))) (.bool false) (by kernel_rfl) (by kernel_rfl) (congrArg Value.bool F1'.out) ?_
        simp only [Act.put, List.setIfInBounds_toArray, List.set_cons_zero, List.set_cons_succ]
        refine st_run (v := .bool false) (.bool false) (by kernel_rfl) (by kernel_rfl) rfl ?_
        simp only [Act.put, List.setIfInBounds_toArray, List.set_cons_zero, List.set_cons_succ]
        refine st_run (v := .bool false) (.bool false) (by kernel_rfl) (by kernel_rfl) rfl ?_
        simp only [Act.put, List.setIfInBounds_toArray, List.set_cons_zero, List.set_cons_succ]
        refine st_run (v := .pointer (some ⟨u3.heap.size, 1, none⟩)) (.pointer (some ⟨u3.heap.size, 1, none⟩)) (by kernel_rfl) (by kernel_rfl) rfl ?_
        simp only [Act.put, List.setIfInBounds_toArray, List.set_cons_zero, List.set_cons_succ]
        refine st_load j2 (.tmp 124) ⟨u3.heap.size, 1, none⟩ (by kernel_rfl) rfl (by kernel_rfl) a1 ?_
        simp only [Act.put, List.setIfInBounds_toArray, List.set_cons_zero, List.set_cons_succ]
        refine st_run (v := .bool (decide (1000000000 < j2))) (.bool false) (by kernel_rfl) (by kernel_rfl) (congrArg Value.bool F2'.out) ?_
        simp only [Act.put, List.setIfInBounds_toArray, List.set_cons_zero, List.set_cons_succ]
        refine st_run (v := .bool false) (.bool false) (by kernel_rfl) (by kernel_rfl) rfl ?_
        simp only [Act.put, List.setIfInBounds_toArray, List.set_cons_zero, List.set_cons_succ]
        refine st_run (v := .bool false) (.bool false) (by kernel_rfl) (by kernel_rfl) rfl ?_
        simp only [Act.put, List.setIfInBounds_toArray, List.set_cons_zero, List.set_cons_succ]
        refine st_run (v := .pointer (some ⟨u4.heap.size, 0, none⟩)) (.pointer (some ⟨u4.heap.size, 0, none⟩)) (by kernel_rfl) (by kernel_rfl) rfl ?_
        simp only [Act.put, List.setIfInBounds_toArray, List.set_cons_zero, List.set_cons_succ]
        refine st_load m3 (.tmp 129) ⟨u4.heap.size, 0, none⟩ (by kernel_rfl) rfl (by kernel_rfl) b0 ?_
        simp only [Act.put, List.setIfInBounds_toArray, List.set_cons_zero, List.set_cons_succ]
        refine st_run (v := .bool (decide (m3 < 0))) (.bool false) (by kernel_rfl) (by kernel_rfl) (congrArg Value.bool F3'.out) ?_
        simp only [Act.put, List.setIfInBounds_toArray, List.set_cons_zero, List.set_cons_succ]
        refine st_run (v := .bool false) (.bool false) (by kernel_rfl) (by kernel_rfl) rfl ?_
        simp only [Act.put, List.setIfInBounds_toArray, List.set_cons_zero, List.set_cons_succ]
        refine st_run (v := .bool false) (.bool false) (by kernel_rfl) (by kernel_rfl) rfl ?_
        simp only [Act.put, List.setIfInBounds_toArray, List.set_cons_zero, List.set_cons_succ]
        refine st_run (v := .pointer (some ⟨u4.heap.size, 1, none⟩)) (.pointer (some ⟨u4.heap.size, 1, none⟩)) (by kernel_rfl) (by kernel_rfl) rfl ?_
        simp only [Act.put, List.setIfInBounds_toArray, List.set_cons_zero, List.set_cons_succ]
        refine st_load j3 (.tmp 134) ⟨u4.heap.size, 1, none⟩ (by kernel_rfl) rfl (by kernel_rfl) b1 ?_
        simp only [Act.put, List.setIfInBounds_toArray, List.set_cons_zero, List.set_cons_succ]
        refine st_run (v := .bool (decide (1000000000 < j3))) (.bool false) (by kernel_rfl) (by kernel_rfl) (congrArg Value.bool F4'.out) ?_
        simp only [Act.put, List.setIfInBounds_toArray, List.set_cons_zero, List.set_cons_succ]
        refine st_run (v := .bool false) (.bool false) (by kernel_rfl) (by kernel_rfl) rfl ?_
        simp only [Act.put, List.setIfInBounds_toArray, List.set_cons_zero, List.set_cons_succ]
        refine st_run (v := .bool false) (.bool false) (by kernel_rfl) (by kernel_rfl) rfl ?_
        simp only [Act.put, List.setIfInBounds_toArray, List.set_cons_zero, List.set_cons_succ]
        refine st_run (v := .pointer (some ⟨u5.heap.size, 0, none⟩)) (.pointer (some ⟨u5.heap.size, 0, none⟩)) (by kernel_rfl) (by kernel_rfl) rfl ?_
        simp only [Act.put, List.setIfInBounds_toArray, List.set_cons_zero, List.set_cons_succ]
        refine st_load m4 (.tmp 139) ⟨u5.heap.size, 0, none⟩ (by kernel_rfl) rfl (by kernel_rfl) d0 ?_
        simp only [Act.put, List.setIfInBounds_toArray, List.set_cons_zero, List.set_cons_succ]
        refine st_run (v := .bool (decide (m4 < 0))) (.bool false) (by kernel_rfl) (by kernel_rfl) (congrArg Value.bool F5'.out) ?_
        simp only [Act.put, List.setIfInBounds_toArray, List.set_cons_zero, List.set_cons_succ]
        refine st_run (v := .bool false) (.bool false) (by kernel_rfl) (by kernel_rfl) rfl ?_
        simp only [Act.put, List.setIfInBounds_toArray, List.set_cons_zero, List.set_cons_succ]
        refine st_run (v := .bool false) (.bool false) (by kernel_rfl) (by kernel_rfl) rfl ?_
        simp only [Act.put, List.setIfInBounds_toArray, List.set_cons_zero, List.set_cons_succ]
        refine st_run (v := .pointer (some ⟨u5.heap.size, 1, none⟩)) (.pointer (some ⟨u5.heap.size, 1, none⟩)) (by kernel_rfl) (by kernel_rfl) rfl ?_
        simp only [Act.put, List.setIfInBounds_toArray, List.set_cons_zero, List.set_cons_succ]
        refine st_load j4 (.tmp 144) ⟨u5.heap.size, 1, none⟩ (by kernel_rfl) rfl (by kernel_rfl) d1 ?_
        simp only [Act.put, List.setIfInBounds_toArray, List.set_cons_zero, List.set_cons_succ]
        refine st_run (v := .bool (decide (1000000000 < j4))) (.bool false) (by kernel_rfl) (by kernel_rfl) (congrArg Value.bool F6'.out) ?_
        simp only [Act.put, List.setIfInBounds_toArray, List.set_cons_zero, List.set_cons_succ]
        refine st_run (v := .bool false) (.bool false) (by kernel_rfl) (by kernel_rfl) rfl ?_
        simp only [Act.put, List.setIfInBounds_toArray, List.set_cons_zero, List.set_cons_succ]
        refine st_nil ?_
        go_upto_region 15 with fail
        refine st_in ?_
        refine st_run (v := .pointer (some ⟨u3.heap.size, 0, none⟩)) (.pointer (some ⟨u3.heap.size, 0, none⟩)) (by kernel_rfl) (by kernel_rfl) rfl ?_
        simp only [Act.put, List.setIfInBounds_toArray, List.set_cons_zero, List.set_cons_succ]
        refine st_load m2 (.tmp 148) ⟨u3.heap.size, 0, none⟩ (by kernel_rfl) rfl (by kernel_rfl) a0 ?_
        simp only [Act.put, List.setIfInBounds_toArray, List.set_cons_zero, List.set_cons_succ]
        refine st_run (v := .pointer (some ⟨u4.heap.size, 0, none⟩)) (.pointer (some ⟨u4.heap.size, 0, none⟩)) (by kernel_rfl) (by kernel_rfl) rfl ?_
        simp only [Act.put, List.setIfInBounds_toArray, List.set_cons_zero, List.set_cons_succ]
        refine st_load m3 (.tmp 150) ⟨u4.heap.size, 0, none⟩ (by kernel_rfl) rfl (by kernel_rfl) b0 ?_
        simp only [Act.put, List.setIfInBounds_toArray, List.set_cons_zero, List.set_cons_succ]
        refine st_run (v := .int .i64 (IntKind.i64.wrap (m2 * m3))) (.int .i64 s1) (by kernel_rfl) (by kernel_rfl) (congrArg (Value.int .i64) W1.out) ?_
        simp only [Act.put, List.setIfInBounds_toArray, List.set_cons_zero, List.set_cons_succ]
        refine st_run (v := .pointer (some ⟨u5.heap.size, 1, none⟩)) (.pointer (some ⟨u5.heap.size, 1, none⟩)) (by kernel_rfl) (by kernel_rfl) rfl ?_
        simp only [Act.put, List.setIfInBounds_toArray, List.set_cons_zero, List.set_cons_succ]
        refine st_load j4 (.tmp 153) ⟨u5.heap.size, 1, none⟩ (by kernel_rfl) rfl (by kernel_rfl) d1 ?_
        simp only [Act.put, List.setIfInBounds_toArray, List.set_cons_zero, List.set_cons_succ]
        refine st_run (v := .int .i64 (IntKind.i64.wrap (1000 * j4))) (.int .i64 s3) (by kernel_rfl) (by kernel_rfl) (congrArg (Value.int .i64) W3.out) ?_
        simp only [Act.put, List.setIfInBounds_toArray, List.set_cons_zero, List.set_cons_succ]
        refine st_run (v := .bool (decide (s1 ≤ s3))) (.bool true) (by kernel_rfl) (by kernel_rfl) (congrArg Value.bool F7'.out) ?_
        simp only [Act.put, List.setIfInBounds_toArray, List.set_cons_zero, List.set_cons_succ]
        refine st_run (v := .bool true) (.bool true) (by kernel_rfl) (by kernel_rfl) rfl ?_
        simp only [Act.put, List.setIfInBounds_toArray, List.set_cons_zero, List.set_cons_succ]
        refine st_run (v := .pointer (some ⟨u3.heap.size, 1, none⟩)) (.pointer (some ⟨u3.heap.size, 1, none⟩)) (by kernel_rfl) (by kernel_rfl) rfl ?_
        simp only [Act.put, List.setIfInBounds_toArray, List.set_cons_zero, List.set_cons_succ]
        refine st_load j2 (.tmp 158) ⟨u3.heap.size, 1, none⟩ (by kernel_rfl) rfl (by kernel_rfl) a1 ?_
        simp only [Act.put, List.setIfInBounds_toArray, List.set_cons_zero, List.set_cons_succ]
        refine st_run (v := .pointer (some ⟨u4.heap.size, 1, none⟩)) (.pointer (some ⟨u4.heap.size, 1, none⟩)) (by kernel_rfl) (by kernel_rfl) rfl ?_
        simp only [Act.put, List.setIfInBounds_toArray, List.set_cons_zero, List.set_cons_succ]
        refine st_load j3 (.tmp 160) ⟨u4.heap.size, 1, none⟩ (by kernel_rfl) rfl (by kernel_rfl) b1 ?_
        simp only [Act.put, List.setIfInBounds_toArray, List.set_cons_zero, List.set_cons_succ]
        refine st_run (v := .int .i64 (IntKind.i64.wrap (j2 * j3))) (.int .i64 s2) (by kernel_rfl) (by kernel_rfl) (congrArg (Value.int .i64) W2.out) ?_
        simp only [Act.put, List.setIfInBounds_toArray, List.set_cons_zero, List.set_cons_succ]
        refine st_run (v := .pointer (some ⟨u5.heap.size, 0, none⟩)) (.pointer (some ⟨u5.heap.size, 0, none⟩)) (by kernel_rfl) (by kernel_rfl) rfl ?_
        simp only [Act.put, List.setIfInBounds_toArray, List.set_cons_zero, List.set_cons_succ]
        refine st_load m4 (.tmp 163) ⟨u5.heap.size, 0, none⟩ (by kernel_rfl) rfl (by kernel_rfl) d0 ?_
        simp only [Act.put, List.setIfInBounds_toArray, List.set_cons_zero, List.set_cons_succ]
        refine st_run (v := .int .i64 (IntKind.i64.wrap (1000 * m4))) (.int .i64 s4) (by kernel_rfl) (by kernel_rfl) (congrArg (Value.int .i64) W4.out) ?_
        simp only [Act.put, List.setIfInBounds_toArray, List.set_cons_zero, List.set_cons_succ]
        refine st_run (v := .bool (decide (s4 ≤ s2))) (.bool true) (by kernel_rfl) (by kernel_rfl) (congrArg Value.bool F8'.out) ?_
        simp only [Act.put, List.setIfInBounds_toArray, List.set_cons_zero, List.set_cons_succ]
        refine st_run (v := .bool true) (.bool true) (by kernel_rfl) (by kernel_rfl) rfl ?_
        simp only [Act.put, List.setIfInBounds_toArray, List.set_cons_zero, List.set_cons_succ]
        refine st_run (v := .bool true) (.bool true) (by kernel_rfl) (by kernel_rfl) rfl ?_
        simp only [Act.put, List.setIfInBounds_toArray, List.set_cons_zero, List.set_cons_succ]
        refine st_call 24 #[] (R := fun v w' => v = .bool true ∧ Below W.heap.size W w') (by kernel_rfl) (by kernel_rfl) ((awake6_any _ (HP.out.below HB8.out)).mono (by rintro e w' ⟨he, hb⟩; exact ⟨_, he, rfl, hb⟩)) ?_
        rintro v v3 ⟨rfl, hb⟩
        have HB9 := Lib.hid (HB8.out.trans (hb.mono HB8.out.size))
        clear hb
        simp only [Act.put, List.setIfInBounds_toArray, List.set_cons_zero, List.set_cons_succ]
        refine st_run (v := .bool true) (.bool true) (by kernel_rfl) (by kernel_rfl) rfl ?_
        simp only [Act.put, List.setIfInBounds_toArray, List.set_cons_zero, List.set_cons_succ]
        refine st_run (v := .bool true) (.bool true) (by kernel_rfl) (by kernel_rfl) rfl ?_
        simp only [Act.put, List.setIfInBounds_toArray, List.set_cons_zero, List.set_cons_succ]
        refine st_nil ?_
        go_wp2
        go_ret
        exact ⟨rfl, HB9.out⟩
      · have k1 := Lib.hid (show decide (t < x) = false from decide_eq_false (by omega))
        have k2 := Lib.hid (show decide (m1 < n1) = false from decide_eq_false (by have := o2 h; omega))
        have k3 := Lib.hid (decide_eq_true h)
        have k4 := Lib.hid (show (t == x) = false by simp; omega)
        clear h o1 o2 o3 g1 g2 HY
        have cT := HQ4.out.cell (i := 2) rfl
        go_upto_region 7 with fail
        refine st_in ?_
        refine st_run (v := .int .i64 0) (.int .i64 0) (by kernel_rfl) (by kernel_rfl) rfl ?_
        simp only [Act.put, List.setIfInBounds_toArray, List.set_cons_zero, List.set_cons_succ]
        refine st_run (v := .bool false) (.bool false) (by kernel_rfl) (by kernel_rfl) rfl ?_
        simp only [Act.put, List.setIfInBounds_toArray, List.set_cons_zero, List.set_cons_succ]
        refine st_run (v := .bool false) (.bool false) (by kernel_rfl) (by kernel_rfl) rfl ?_
        simp only [Act.put, List.setIfInBounds_toArray, List.set_cons_zero, List.set_cons_succ]
        refine st_run (v := .int .i64 0) (.int .i64 0) (by kernel_rfl) (by kernel_rfl) rfl ?_
        simp only [Act.put, List.setIfInBounds_toArray, List.set_cons_zero, List.set_cons_succ]
        refine st_run (v := .bool true) (.bool true) (by kernel_rfl) (by kernel_rfl) rfl ?_
        simp only [Act.put, List.setIfInBounds_toArray, List.set_cons_zero, List.set_cons_succ]
        refine st_run (v := .bool true) (.bool true) (by kernel_rfl) (by kernel_rfl) rfl ?_
        simp only [Act.put, List.setIfInBounds_toArray, List.set_cons_zero, List.set_cons_succ]
        refine st_run (v := .pointer (some ⟨w.heap.size, 0, none⟩)) (.pointer (some ⟨w.heap.size, 0, none⟩)) (by kernel_rfl) (by kernel_rfl) rfl ?_
        simp only [Act.put, List.setIfInBounds_toArray, List.set_cons_zero, List.set_cons_succ]
        refine st_run (v := .pointer (some ⟨w.heap.size, 2, none⟩)) (.pointer (some ⟨w.heap.size, 2, none⟩)) (by kernel_rfl) (by kernel_rfl) rfl ?_
        simp only [Act.put, List.setIfInBounds_toArray, List.set_cons_zero, List.set_cons_succ]
        refine st_load t (.tmp 43) ⟨w.heap.size, 2, none⟩ (by kernel_rfl) rfl (by kernel_rfl) cT ?_
        simp only [Act.put, List.setIfInBounds_toArray, List.set_cons_zero, List.set_cons_succ]
        refine st_run (v := .int .i64 x) (.int .i64 x) (by kernel_rfl) (by kernel_rfl) rfl ?_
        simp only [Act.put, List.setIfInBounds_toArray, List.set_cons_zero, List.set_cons_succ]
        refine st_run (v := .bool (decide (t < x))) (.bool false) (by kernel_rfl) (by kernel_rfl) (congrArg Value.bool k1.out) ?_
        simp only [Act.put, List.setIfInBounds_toArray, List.set_cons_zero, List.set_cons_succ]
        refine st_run (v := .bool false) (.bool false) (by kernel_rfl) (by kernel_rfl) rfl ?_
        simp only [Act.put, List.setIfInBounds_toArray, List.set_cons_zero, List.set_cons_succ]
        refine st_skip (by kernel_rfl) ?_
        simp only [Act.put, List.setIfInBounds_toArray, List.set_cons_zero, List.set_cons_succ]
        refine st_skip (by kernel_rfl) ?_
        simp only [Act.put, List.setIfInBounds_toArray, List.set_cons_zero, List.set_cons_succ]
        refine st_skip (by kernel_rfl) ?_
        simp only [Act.put, List.setIfInBounds_toArray, List.set_cons_zero, List.set_cons_succ]
        refine st_run (v := .bool false) (.bool false) (by kernel_rfl) (by kernel_rfl) rfl ?_
        simp only [Act.put, List.setIfInBounds_toArray, List.set_cons_zero, List.set_cons_succ]
        refine st_run (v := .bool false) (.bool false) (by kernel_rfl) (by kernel_rfl) rfl ?_
        simp only [Act.put, List.setIfInBounds_toArray, List.set_cons_zero, List.set_cons_succ]
        refine st_run (v := .pointer (some ⟨w.heap.size, 0, none⟩)) (.pointer (some ⟨w.heap.size, 0, none⟩)) (by kernel_rfl) (by kernel_rfl) rfl ?_
        simp only [Act.put, List.setIfInBounds_toArray, List.set_cons_zero, List.set_cons_succ]
        refine st_run (v := .pointer (some ⟨w.heap.size, 2, none⟩)) (.pointer (some ⟨w.heap.size, 2, none⟩)) (by kernel_rfl) (by kernel_rfl) rfl ?_
        simp only [Act.put, List.setIfInBounds_toArray, List.set_cons_zero, List.set_cons_succ]
        refine st_load t (.tmp 54) ⟨w.heap.size, 2, none⟩ (by kernel_rfl) rfl (by kernel_rfl) cT ?_
        simp only [Act.put, List.setIfInBounds_toArray, List.set_cons_zero, List.set_cons_succ]
        refine st_run (v := .int .i64 x) (.int .i64 x) (by kernel_rfl) (by kernel_rfl) rfl ?_
        simp only [Act.put, List.setIfInBounds_toArray, List.set_cons_zero, List.set_cons_succ]
        refine st_run (v := .bool (decide (x < t))) (.bool true) (by kernel_rfl) (by kernel_rfl) (congrArg Value.bool k3.out) ?_
        simp only [Act.put, List.setIfInBounds_toArray, List.set_cons_zero, List.set_cons_succ]
        refine st_run (v := .bool true) (.bool true) (by kernel_rfl) (by kernel_rfl) rfl ?_
        simp only [Act.put, List.setIfInBounds_toArray, List.set_cons_zero, List.set_cons_succ]
        refine st_run (v := .int .i64 m1) (.int .i64 m1) (by kernel_rfl) (by kernel_rfl) rfl ?_
        simp only [Act.put, List.setIfInBounds_toArray, List.set_cons_zero, List.set_cons_succ]
        refine st_run (v := .int .i64 n1) (.int .i64 n1) (by kernel_rfl) (by kernel_rfl) rfl ?_
        simp only [Act.put, List.setIfInBounds_toArray, List.set_cons_zero, List.set_cons_succ]
        refine st_run (v := .bool (decide (m1 < n1))) (.bool false) (by kernel_rfl) (by kernel_rfl) (congrArg Value.bool k2.out) ?_
        simp only [Act.put, List.setIfInBounds_toArray, List.set_cons_zero, List.set_cons_succ]
        refine st_run (v := .bool false) (.bool false) (by kernel_rfl) (by kernel_rfl) rfl ?_
        simp only [Act.put, List.setIfInBounds_toArray, List.set_cons_zero, List.set_cons_succ]
        refine st_run (v := .bool false) (.bool false) (by kernel_rfl) (by kernel_rfl) rfl ?_
        simp only [Act.put, List.setIfInBounds_toArray, List.set_cons_zero, List.set_cons_succ]
        refine st_run (v := .bool false) (.bool false) (by kernel_rfl) (by kernel_rfl) rfl ?_
        simp only [Act.put, List.setIfInBounds_toArray, List.set_cons_zero, List.set_cons_succ]
        refine st_run (v := .pointer (some ⟨w.heap.size, 0, none⟩)) (.pointer (some ⟨w.heap.size, 0, none⟩)) (by kernel_rfl) (by kernel_rfl) rfl ?_
        simp only [Act.put, List.setIfInBounds_toArray, List.set_cons_zero, List.set_cons_succ]
        refine st_run (v := .pointer (some ⟨w.heap.size, 2, none⟩)) (.pointer (some ⟨w.heap.size, 2, none⟩)) (by kernel_rfl) (by kernel_rfl) rfl ?_
        simp only [Act.put, List.setIfInBounds_toArray, List.set_cons_zero, List.set_cons_succ]
        refine st_load t (.tmp 66) ⟨w.heap.size, 2, none⟩ (by kernel_rfl) rfl (by kernel_rfl) cT ?_
        simp only [Act.put, List.setIfInBounds_toArray, List.set_cons_zero, List.set_cons_succ]
        refine st_run (v := .int .i64 x) (.int .i64 x) (by kernel_rfl) (by kernel_rfl) rfl ?_
        simp only [Act.put, List.setIfInBounds_toArray, List.set_cons_zero, List.set_cons_succ]
        refine st_run (v := .bool (t == x)) (.bool false) (by kernel_rfl) (by kernel_rfl) (congrArg Value.bool k4.out) ?_
        simp only [Act.put, List.setIfInBounds_toArray, List.set_cons_zero, List.set_cons_succ]
        refine st_run (v := .bool false) (.bool false) (by kernel_rfl) (by kernel_rfl) rfl ?_
        simp only [Act.put, List.setIfInBounds_toArray, List.set_cons_zero, List.set_cons_succ]
        refine st_skip (by kernel_rfl) ?_
        simp only [Act.put, List.setIfInBounds_toArray, List.set_cons_zero, List.set_cons_succ]
        refine st_skip (by kernel_rfl) ?_
        simp only [Act.put, List.setIfInBounds_toArray, List.set_cons_zero, List.set_cons_succ]
        refine st_skip (by kernel_rfl) ?_
        simp only [Act.put, List.setIfInBounds_toArray, List.set_cons_zero, List.set_cons_succ]
        refine st_run (v := .bool false) (.bool false) (by kernel_rfl) (by kernel_rfl) rfl ?_
        simp only [Act.put, List.setIfInBounds_toArray, List.set_cons_zero, List.set_cons_succ]
        refine st_run (v := .bool false) (.bool false) (by kernel_rfl) (by kernel_rfl) rfl ?_
        simp only [Act.put, List.setIfInBounds_toArray, List.set_cons_zero, List.set_cons_succ]
        refine st_run (v := .bool false) (.bool false) (by kernel_rfl) (by kernel_rfl) rfl ?_
        simp only [Act.put, List.setIfInBounds_toArray, List.set_cons_zero, List.set_cons_succ]
        refine st_run (v := .bool false) (.bool false) (by kernel_rfl) (by kernel_rfl) rfl ?_
        simp only [Act.put, List.setIfInBounds_toArray, List.set_cons_zero, List.set_cons_succ]
        refine st_nil ?_
        clear cT
        go_upto_region 9 with fail
        have c1 := HQ4.out.cell (i := 1) rfl
        have c2 := HQ4.out.cell (i := 2) rfl
        have z2 := RowV.z (i := 2) HQ4.out
        have HQ5 := Lib.hid (row_set2 (x := t0) HQ4.out)
        have HB5 := Lib.hid (HB4.out.setCell (Nat.le_refl _) (.int .i64 t0) : Below w.heap.size w (u2.setCell ⟨w.heap.size, 2, none⟩ (.int .i64 t0)))
        clear HQ4 HB4
        go_wp2_with (first | ((show wpList _ _ _ (⟨_, .load _ _, _, _, _, _⟩ :: _) _ _); refine wpList_load_midw (by rfl) 50 _ rfl w.heap.size 0 rfl [.int .i64 (A : Int), .int .i64 t0, .int .i64 t0] _ (cs_rows HQ5.out).1 Tryd.underlying50 rfl (HI1.out _) ?_) | ((show wpList _ _ _ (⟨_, .load _ _, _, _, _, _⟩ :: _) _ _); refine wpList_load_midw (by rfl) 38 _ rfl w.heap.size 3 rfl L _ (cs_rows HQ5.out).2 Tryd.underlying38 rfl HI2.out ?_))
        refine (HC1.out _ (HP.out.below HB5.out)).mono ?_
        rintro e u3 ⟨m2, j2, p2, he, hb⟩
        subst he
        clear c1 c2 z2
        have HQ6 := Lib.hid ((HQ5.out.up hb).alloc (.cells #[.int .i64 m2, .int .i64 j2] 55))
        have hbx := HB5.out.trans (hb.mono HB5.out.size)
        have HB6 := Lib.hid (hbx.alloc hbx.size (.cells #[.int .i64 m2, .int .i64 j2] 55))
        have I2_6 := Lib.hid (RowV.of_alloc u3 55 [.int .i64 m2, .int .i64 j2])
        clear hb hbx HQ5 HB5 HC1
        go_wp2_with (first | ((show wpList _ _ _ (⟨_, .load _ _, _, _, _, _⟩ :: _) _ _); refine wpList_load_midw (by rfl) 50 _ rfl w.heap.size 0 rfl [.int .i64 (A : Int), .int .i64 t0, .int .i64 t0] _ (cs_rows HQ6.out).1 Tryd.underlying50 rfl (HI1.out _) ?_) | ((show wpList _ _ _ (⟨_, .load _ _, _, _, _, _⟩ :: _) _ _); refine wpList_load_midw (by rfl) 38 _ rfl w.heap.size 3 rfl L _ (cs_rows HQ6.out).2 Tryd.underlying38 rfl HI2.out ?_))
        refine (HC2.out _ (HP.out.below HB6.out)).mono ?_
        rintro e u4 ⟨m3, j3, p3, he, hb⟩
        subst he
        have HQ7 := Lib.hid ((HQ6.out.up hb).alloc (.cells #[.int .i64 m3, .int .i64 j3] 55))
        have I2_7 := Lib.hid ((I2_6.out.up hb).alloc (.cells #[.int .i64 m3, .int .i64 j3] 55))
        have hbx := HB6.out.trans (hb.mono HB6.out.size)
        have HB7 := Lib.hid (hbx.alloc hbx.size (.cells #[.int .i64 m3, .int .i64 j3] 55))
        have I3_7 := Lib.hid (RowV.of_alloc u4 55 [.int .i64 m3, .int .i64 j3])
        have c7 := HQ7.out.cell (i := 1) rfl
        clear hb hbx HQ6 HB6 HC2 I2_6
        go_wp2_with fail
        refine (HC3.out _).mono ?_
        rintro e u5 ⟨m4, j4, p4, he, hb⟩
        subst he
        obtain ⟨W, hW⟩ : ∃ W, W = u5.alloc (.cells #[.int .i64 m4, .int .i64 j4] 55) := ⟨_, rfl⟩
        have hbx := HB7.out.trans (hb.mono HB7.out.size)
        have HB8 : Hid (Below w.heap.size w W) := Lib.hid (by rw [hW]; exact hbx.alloc hbx.size _)
        have I2 : RowV W u3.heap.size 55 [.int .i64 m2, .int .i64 j2] := by rw [hW]; exact (I2_7.out.up hb).alloc _
        have I3 : RowV W u4.heap.size 55 [.int .i64 m3, .int .i64 j3] := by rw [hW]; exact (I3_7.out.up hb).alloc _
        have I4 : RowV W u5.heap.size 55 [.int .i64 m4, .int .i64 j4] := by rw [hW]; exact RowV.of_alloc u5 _ _
        have HWE := Lib.hid hW
        have a0 := RowV.c0 I2
        have a1 := RowV.c1 I2
        have b0 := RowV.c0 I3
        have b1 := RowV.c1 I3
        have d0 := RowV.c0 I4
        have d1 := RowV.c1 I4
        clear hb hbx hW HQ7 HB7 I2_7 I3_7 HC3 c7 I2 I3 I4
        obtain ⟨⟨x1, x2, x3⟩, ⟨y1, y2, y3⟩, ⟨z1, z2, z3⟩, q1, q2⟩ := HX.out _ _ _ _ _ _ p2 p3 p4
        have f1 : decide (m2 < 0) = false := decide_eq_false (by omega)
        have f2 : decide (1000000000 < j2) = false := decide_eq_false (by omega)
        have f3 : decide (m3 < 0) = false := decide_eq_false (by omega)
        have f4 : decide (1000000000 < j3) = false := decide_eq_false (by omega)
        have f5 : decide (m4 < 0) = false := decide_eq_false (by omega)
        have f6 : decide (1000000000 < j4) = false := decide_eq_false (by omega)
        have n1 := Int.mul_nonneg x1 y1
        have n2 : m2 * m3 ≤ 1000000000 * 1000000000 := Int.mul_le_mul (by omega) (by omega) y1 (by omega)
        have n3 := Int.mul_nonneg (show 0 ≤ j2 by omega) (show 0 ≤ j3 by omega)
        have n4 : j2 * j3 ≤ 1000000000 * 1000000000 := Int.mul_le_mul x3 y3 (by omega) (by omega)
        obtain ⟨s1, hs1⟩ : ∃ s, s = m2 * m3 := ⟨_, rfl⟩
        obtain ⟨s2, hs2⟩ : ∃ s, s = j2 * j3 := ⟨_, rfl⟩
        obtain ⟨s3, hs3⟩ : ∃ s, s = 1000 * j4 := ⟨_, rfl⟩
        obtain ⟨s4, hs4⟩ : ∃ s, s = 1000 * m4 := ⟨_, rfl⟩
        rw [← hs1] at n1 n2 q1
        rw [← hs2] at n3 n4 q2
        rw [← hs3] at q1
        rw [← hs4] at q2
        have w1 : IntKind.i64.wrap (m2 * m3) = s1 := by rw [← hs1]; exact IntWalk.i64_in _ (by omega)
        have w2 : IntKind.i64.wrap (j2 * j3) = s2 := by rw [← hs2]; exact IntWalk.i64_in _ (by omega)
        have w3 : IntKind.i64.wrap (1000 * j4) = s3 := by rw [← hs3]; exact IntWalk.i64_in _ (by omega)
        have w4 : IntKind.i64.wrap (1000 * m4) = s4 := by rw [← hs4]; exact IntWalk.i64_in _ (by omega)
        have f7 : decide (s1 ≤ s3) = true := decide_eq_true q1
        have f8 : decide (s4 ≤ s2) = true := decide_eq_true q2
        have W1 := Lib.hid w1
        have W2 := Lib.hid w2
        have W3 := Lib.hid w3
        have W4 := Lib.hid w4
        have F1' := Lib.hid f1
        have F2' := Lib.hid f2
        have F3' := Lib.hid f3
        have F4' := Lib.hid f4
        have F5' := Lib.hid f5
        have F6' := Lib.hid f6
        have F7' := Lib.hid f7
        have F8' := Lib.hid f8
        clear w1 w2 w3 w4 f1 f2 f3 f4 f5 f6 f7 f8 n1 n2 n3 n4 hs1 hs2 hs3 hs4 q1 q2 x1 x2 x3 y1 y2 y3 z1 z2 z3 p2 p3 p4 HX
        go_upto_region 13 with fail
        rw [← HWE.out]
        clear HWE
        refine st_in ?_
        refine st_run (v := .int .i64 0) (.int .i64 0) (by kernel_rfl) (by kernel_rfl) rfl ?_
        simp only [Act.put, List.setIfInBounds_toArray, List.set_cons_zero, List.set_cons_succ]
        refine st_run (v := .bool false) (.bool false) (by kernel_rfl) (by kernel_rfl) rfl ?_
        simp only [Act.put, List.setIfInBounds_toArray, List.set_cons_zero, List.set_cons_succ]
        refine st_run (v := .bool false) (.bool false) (by kernel_rfl) (by kernel_rfl) rfl ?_
        simp only [Act.put, List.setIfInBounds_toArray, List.set_cons_zero, List.set_cons_succ]
        refine st_run (v := .int .i64 0) (.int .i64 0) (by kernel_rfl) (by kernel_rfl) rfl ?_
        simp only [Act.put, List.setIfInBounds_toArray, List.set_cons_zero, List.set_cons_succ]
        refine st_run (v := .bool false) (.bool false) (by kernel_rfl) (by kernel_rfl) rfl ?_
        simp only [Act.put, List.setIfInBounds_toArray, List.set_cons_zero, List.set_cons_succ]
        refine st_run (v := .bool false) (.bool false) (by kernel_rfl) (by kernel_rfl) rfl ?_
        simp only [Act.put, List.setIfInBounds_toArray, List.set_cons_zero, List.set_cons_succ]
        refine st_run (v := .bool false) (.bool false) (by kernel_rfl) (by kernel_rfl) rfl ?_
        simp only [Act.put, List.setIfInBounds_toArray, List.set_cons_zero, List.set_cons_succ]
        refine st_run (v := .int .i64 0) (.int .i64 0) (by kernel_rfl) (by kernel_rfl) rfl ?_
        simp only [Act.put, List.setIfInBounds_toArray, List.set_cons_zero, List.set_cons_succ]
        refine st_run (v := .bool false) (.bool false) (by kernel_rfl) (by kernel_rfl) rfl ?_
        simp only [Act.put, List.setIfInBounds_toArray, List.set_cons_zero, List.set_cons_succ]
        refine st_run (v := .bool false) (.bool false) (by kernel_rfl) (by kernel_rfl) rfl ?_
        simp only [Act.put, List.setIfInBounds_toArray, List.set_cons_zero, List.set_cons_succ]
        refine st_run (v := .bool false) (.bool false) (by kernel_rfl) (by kernel_rfl) rfl ?_
        simp only [Act.put, List.setIfInBounds_toArray, List.set_cons_zero, List.set_cons_succ]
        refine st_run (v := .pointer (some ⟨u3.heap.size, 0, none⟩)) (.pointer (some ⟨u3.heap.size, 0, none⟩)) (by kernel_rfl) (by kernel_rfl) rfl ?_
        simp only [Act.put, List.setIfInBounds_toArray, List.set_cons_zero, List.set_cons_succ]
        refine st_load m2 (.tmp 119) ⟨u3.heap.size, 0, none⟩ (by kernel_rfl) rfl (by kernel_rfl) a0 ?_
        simp only [Act.put, List.setIfInBounds_toArray, List.set_cons_zero, List.set_cons_succ]
        refine st_run (v := .bool (decide (m2 < 0))) (.bool false) (by kernel_rfl) (by kernel_rfl) (congrArg Value.bool F1'.out) ?_
        simp only [Act.put, List.setIfInBounds_toArray, List.set_cons_zero, List.set_cons_succ]
        refine st_run (v := .bool false) (.bool false) (by kernel_rfl) (by kernel_rfl) rfl ?_
        simp only [Act.put, List.setIfInBounds_toArray, List.set_cons_zero, List.set_cons_succ]
        refine st_run (v := .bool false) (.bool false) (by kernel_rfl) (by kernel_rfl) rfl ?_
        simp only [Act.put, List.setIfInBounds_toArray, List.set_cons_zero, List.set_cons_succ]
        refine st_run (v := .pointer (some ⟨u3.heap.size, 1, none⟩)) (.pointer (some ⟨u3.heap.size, 1, none⟩)) (by kernel_rfl) (by kernel_rfl) rfl ?_
        simp only [Act.put, List.setIfInBounds_toArray, List.set_cons_zero, List.set_cons_succ]
        refine st_load j2 (.tmp 124) ⟨u3.heap.size, 1, none⟩ (by kernel_rfl) rfl (by kernel_rfl) a1 ?_
        simp only [Act.put, List.setIfInBounds_toArray, List.set_cons_zero, List.set_cons_succ]
        refine st_run (v := .bool (decide (1000000000 < j2))) (.bool false) (by kernel_rfl) (by kernel_rfl) (congrArg Value.bool F2'.out) ?_
        simp only [Act.put, List.setIfInBounds_toArray, List.set_cons_zero, List.set_cons_succ]
        refine st_run (v := .bool false) (.bool false) (by kernel_rfl) (by kernel_rfl) rfl ?_
        simp only [Act.put, List.setIfInBounds_toArray, List.set_cons_zero, List.set_cons_succ]
        refine st_run (v := .bool false) (.bool false) (by kernel_rfl) (by kernel_rfl) rfl ?_
        simp only [Act.put, List.setIfInBounds_toArray, List.set_cons_zero, List.set_cons_succ]
        refine st_run (v := .pointer (some ⟨u4.heap.size, 0, none⟩)) (.pointer (some ⟨u4.heap.size, 0, none⟩)) (by kernel_rfl) (by kernel_rfl) rfl ?_
        simp only [Act.put, List.setIfInBounds_toArray, List.set_cons_zero, List.set_cons_succ]
        refine st_load m3 (.tmp 129) ⟨u4.heap.size, 0, none⟩ (by kernel_rfl) rfl (by kernel_rfl) b0 ?_
        simp only [Act.put, List.setIfInBounds_toArray, List.set_cons_zero, List.set_cons_succ]
        refine st_run (v := .bool (decide (m3 < 0))) (.bool false) (by kernel_rfl) (by kernel_rfl) (congrArg Value.bool F3'.out) ?_
        simp only [Act.put, List.setIfInBounds_toArray, List.set_cons_zero, List.set_cons_succ]
        refine st_run (v := .bool false) (.bool false) (by kernel_rfl) (by kernel_rfl) rfl ?_
        simp only [Act.put, List.setIfInBounds_toArray, List.set_cons_zero, List.set_cons_succ]
        refine st_run (v := .bool false) (.bool false) (by kernel_rfl) (by kernel_rfl) rfl ?_
        simp only [Act.put, List.setIfInBounds_toArray, List.set_cons_zero, List.set_cons_succ]
        refine st_run (v := .pointer (some ⟨u4.heap.size, 1, none⟩)) (.pointer (some ⟨u4.heap.size, 1, none⟩)) (by kernel_rfl) (by kernel_rfl) rfl ?_
        simp only [Act.put, List.setIfInBounds_toArray, List.set_cons_zero, List.set_cons_succ]
        refine st_load j3 (.tmp 134) ⟨u4.heap.size, 1, none⟩ (by kernel_rfl) rfl (by kernel_rfl) b1 ?_
        simp only [Act.put, List.setIfInBounds_toArray, List.set_cons_zero, List.set_cons_succ]
        refine st_run (v := .bool (decide (1000000000 < j3))) (.bool false) (by kernel_rfl) (by kernel_rfl) (congrArg Value.bool F4'.out) ?_
        simp only [Act.put, List.setIfInBounds_toArray, List.set_cons_zero, List.set_cons_succ]
        refine st_run (v := .bool false) (.bool false) (by kernel_rfl) (by kernel_rfl) rfl ?_
        simp only [Act.put, List.setIfInBounds_toArray, List.set_cons_zero, List.set_cons_succ]
        refine st_run (v := .bool false) (.bool false) (by kernel_rfl) (by kernel_rfl) rfl ?_
        simp only [Act.put, List.setIfInBounds_toArray, List.set_cons_zero, List.set_cons_succ]
        refine st_run (v := .pointer (some ⟨u5.heap.size, 0, none⟩)) (.pointer (some ⟨u5.heap.size, 0, none⟩)) (by kernel_rfl) (by kernel_rfl) rfl ?_
        simp only [Act.put, List.setIfInBounds_toArray, List.set_cons_zero, List.set_cons_succ]
        refine st_load m4 (.tmp 139) ⟨u5.heap.size, 0, none⟩ (by kernel_rfl) rfl (by kernel_rfl) d0 ?_
        simp only [Act.put, List.setIfInBounds_toArray, List.set_cons_zero, List.set_cons_succ]
        refine st_run (v := .bool (decide (m4 < 0))) (.bool false) (by kernel_rfl) (by kernel_rfl) (congrArg Value.bool F5'.out) ?_
        simp only [Act.put, List.setIfInBounds_toArray, List.set_cons_zero, List.set_cons_succ]
        refine st_run (v := .bool false) (.bool false) (by kernel_rfl) (by kernel_rfl) rfl ?_
        simp only [Act.put, List.setIfInBounds_toArray, List.set_cons_zero, List.set_cons_succ]
        refine st_run (v := .bool false) (.bool false) (by kernel_rfl) (by kernel_rfl) rfl ?_
        simp only [Act.put, List.setIfInBounds_toArray, List.set_cons_zero, List.set_cons_succ]
        refine st_run (v := .pointer (some ⟨u5.heap.size, 1, none⟩)) (.pointer (some ⟨u5.heap.size, 1, none⟩)) (by kernel_rfl) (by kernel_rfl) rfl ?_
        simp only [Act.put, List.setIfInBounds_toArray, List.set_cons_zero, List.set_cons_succ]
        refine st_load j4 (.tmp 144) ⟨u5.heap.size, 1, none⟩ (by kernel_rfl) rfl (by kernel_rfl) d1 ?_
        simp only [Act.put, List.setIfInBounds_toArray, List.set_cons_zero, List.set_cons_succ]
        refine st_run (v := .bool (decide (1000000000 < j4))) (.bool false) (by kernel_rfl) (by kernel_rfl) (congrArg Value.bool F6'.out) ?_
        simp only [Act.put, List.setIfInBounds_toArray, List.set_cons_zero, List.set_cons_succ]
        refine st_run (v := .bool false) (.bool false) (by kernel_rfl) (by kernel_rfl) rfl ?_
        simp only [Act.put, List.setIfInBounds_toArray, List.set_cons_zero, List.set_cons_succ]
        refine st_nil ?_
        go_upto_region 15 with fail
        refine st_in ?_
        refine st_run (v := .pointer (some ⟨u3.heap.size, 0, none⟩)) (.pointer (some ⟨u3.heap.size, 0, none⟩)) (by kernel_rfl) (by kernel_rfl) rfl ?_
        simp only [Act.put, List.setIfInBounds_toArray, List.set_cons_zero, List.set_cons_succ]
        refine st_load m2 (.tmp 148) ⟨u3.heap.size, 0, none⟩ (by kernel_rfl) rfl (by kernel_rfl) a0 ?_
        simp only [Act.put, List.setIfInBounds_toArray, List.set_cons_zero, List.set_cons_succ]
        refine st_run (v := .pointer (some ⟨u4.heap.size, 0, none⟩)) (.pointer (some ⟨u4.heap.size, 0, none⟩)) (by kernel_rfl) (by kernel_rfl) rfl ?_
        simp only [Act.put, List.setIfInBounds_toArray, List.set_cons_zero, List.set_cons_succ]
        refine st_load m3 (.tmp 150) ⟨u4.heap.size, 0, none⟩ (by kernel_rfl) rfl (by kernel_rfl) b0 ?_
        simp only [Act.put, List.setIfInBounds_toArray, List.set_cons_zero, List.set_cons_succ]
        refine st_run (v := .int .i64 (IntKind.i64.wrap (m2 * m3))) (.int .i64 s1) (by kernel_rfl) (by kernel_rfl) (congrArg (Value.int .i64) W1.out) ?_
        simp only [Act.put, List.setIfInBounds_toArray, List.set_cons_zero, List.set_cons_succ]
        refine st_run (v := .pointer (some ⟨u5.heap.size, 1, none⟩)) (.pointer (some ⟨u5.heap.size, 1, none⟩)) (by kernel_rfl) (by kernel_rfl) rfl ?_
        simp only [Act.put, List.setIfInBounds_toArray, List.set_cons_zero, List.set_cons_succ]
        refine st_load j4 (.tmp 153) ⟨u5.heap.size, 1, none⟩ (by kernel_rfl) rfl (by kernel_rfl) d1 ?_
        simp only [Act.put, List.setIfInBounds_toArray, List.set_cons_zero, List.set_cons_succ]
        refine st_run (v := .int .i64 (IntKind.i64.wrap (1000 * j4))) (.int .i64 s3) (by kernel_rfl) (by kernel_rfl) (congrArg (Value.int .i64) W3.out) ?_
        simp only [Act.put, List.setIfInBounds_toArray, List.set_cons_zero, List.set_cons_succ]
        refine st_run (v := .bool (decide (s1 ≤ s3))) (.bool true) (by kernel_rfl) (by kernel_rfl) (congrArg Value.bool F7'.out) ?_
        simp only [Act.put, List.setIfInBounds_toArray, List.set_cons_zero, List.set_cons_succ]
        refine st_run (v := .bool true) (.bool true) (by kernel_rfl) (by kernel_rfl) rfl ?_
        simp only [Act.put, List.setIfInBounds_toArray, List.set_cons_zero, List.set_cons_succ]
        refine st_run (v := .pointer (some ⟨u3.heap.size, 1, none⟩)) (.pointer (some ⟨u3.heap.size, 1, none⟩)) (by kernel_rfl) (by kernel_rfl) rfl ?_
        simp only [Act.put, List.setIfInBounds_toArray, List.set_cons_zero, List.set_cons_succ]
        refine st_load j2 (.tmp 158) ⟨u3.heap.size, 1, none⟩ (by kernel_rfl) rfl (by kernel_rfl) a1 ?_
        simp only [Act.put, List.setIfInBounds_toArray, List.set_cons_zero, List.set_cons_succ]
        refine st_run (v := .pointer (some ⟨u4.heap.size, 1, none⟩)) (.pointer (some ⟨u4.heap.size, 1, none⟩)) (by kernel_rfl) (by kernel_rfl) rfl ?_
        simp only [Act.put, List.setIfInBounds_toArray, List.set_cons_zero, List.set_cons_succ]
        refine st_load j3 (.tmp 160) ⟨u4.heap.size, 1, none⟩ (by kernel_rfl) rfl (by kernel_rfl) b1 ?_
        simp only [Act.put, List.setIfInBounds_toArray, List.set_cons_zero, List.set_cons_succ]
        refine st_run (v := .int .i64 (IntKind.i64.wrap (j2 * j3))) (.int .i64 s2) (by kernel_rfl) (by kernel_rfl) (congrArg (Value.int .i64) W2.out) ?_
        simp only [Act.put, List.setIfInBounds_toArray, List.set_cons_zero, List.set_cons_succ]
        refine st_run (v := .pointer (some ⟨u5.heap.size, 0, none⟩)) (.pointer (some ⟨u5.heap.size, 0, none⟩)) (by kernel_rfl) (by kernel_rfl) rfl ?_
        simp only [Act.put, List.setIfInBounds_toArray, List.set_cons_zero, List.set_cons_succ]
        refine st_load m4 (.tmp 163) ⟨u5.heap.size, 0, none⟩ (by kernel_rfl) rfl (by kernel_rfl) d0 ?_
        simp only [Act.put, List.setIfInBounds_toArray, List.set_cons_zero, List.set_cons_succ]
        refine st_run (v := .int .i64 (IntKind.i64.wrap (1000 * m4))) (.int .i64 s4) (by kernel_rfl) (by kernel_rfl) (congrArg (Value.int .i64) W4.out) ?_
        simp only [Act.put, List.setIfInBounds_toArray, List.set_cons_zero, List.set_cons_succ]
        refine st_run (v := .bool (decide (s4 ≤ s2))) (.bool true) (by kernel_rfl) (by kernel_rfl) (congrArg Value.bool F8'.out) ?_
        simp only [Act.put, List.setIfInBounds_toArray, List.set_cons_zero, List.set_cons_succ]
        refine st_run (v := .bool true) (.bool true) (by kernel_rfl) (by kernel_rfl) rfl ?_
        simp only [Act.put, List.setIfInBounds_toArray, List.set_cons_zero, List.set_cons_succ]
        refine st_run (v := .bool true) (.bool true) (by kernel_rfl) (by kernel_rfl) rfl ?_
        simp only [Act.put, List.setIfInBounds_toArray, List.set_cons_zero, List.set_cons_succ]
        refine st_call 24 #[] (R := fun v w' => v = .bool true ∧ Below W.heap.size W w') (by kernel_rfl) (by kernel_rfl) ((awake6_any _ (HP.out.below HB8.out)).mono (by rintro e w' ⟨he, hb⟩; exact ⟨_, he, rfl, hb⟩)) ?_
        rintro v v3 ⟨rfl, hb⟩
        have HB9 := Lib.hid (HB8.out.trans (hb.mono HB8.out.size))
        clear hb
        simp only [Act.put, List.setIfInBounds_toArray, List.set_cons_zero, List.set_cons_succ]
        refine st_run (v := .bool true) (.bool true) (by kernel_rfl) (by kernel_rfl) rfl ?_
        simp only [Act.put, List.setIfInBounds_toArray, List.set_cons_zero, List.set_cons_succ]
        refine st_run (v := .bool true) (.bool true) (by kernel_rfl) (by kernel_rfl) rfl ?_
        simp only [Act.put, List.setIfInBounds_toArray, List.set_cons_zero, List.set_cons_succ]
        refine st_nil ?_
        go_wp2
        go_ret
        exact ⟨rfl, HB9.out⟩
end Go.Proofs.YtkoghdgfllichaaDoor.Pc
