import Derived.Test.YtkoghdgfllichaaDoorPAD
import Derived.Test.YtkoghdgfllichaaDoorTAC
namespace Go.Proofs.YtkoghdgfllichaaDoor.Pc
open Go.RowKit Tp

/-! Notes of a valid temperament. -/
def NtP (w : World) (T : Tm) (D : Int) (wn : Nat) (e : Ending) (w' : World) : Prop := ∃ N g, NotesL D (fN T D) wn 12 N ∧ e = .returned (.tuple #[.slice (some ⟨g, 0, none⟩) 12 12, .int .i64 0]) ∧ RowV w' g 90 (fl7 N) ∧ w.heap.size ≤ g ∧ Below w.heap.size w w'
set_option maxRecDepth 100000 in
set_option maxHeartbeats 2000000 in
theorem Notes_ok (T : Tm) (D : Int) (wn : Nat) (w : World) (hp : PrL w) (hl : T.ps.length = 12) (hs : T.nm.size ≤ maxLen) (hk : chkT T = 0) (hv : Vd T D wn) : Calls Tryd.prog 18 #[.agg (tmV T).toArray] w (NtP w T D wn) := by
  have hP : ∀ e w', NtP w T D wn e w' = (∃ N g, NotesL D (fN T D) wn 12 N ∧ e = .returned (.tuple #[.slice (some ⟨g, 0, none⟩) 12 12, .int .i64 0]) ∧ RowV w' g 90 (fl7 N) ∧ w.heap.size ≤ g ∧ Below w.heap.size w w') := fun _ _ => rfl
  have hck := fun W => Check_any T W hl hs
  rw [hk] at hck
  have hno := fun W (h : PrL W) => notesOf_any T D wn W h hl hv
  have hz := zero65
  have HCK := Lib.hid hck
  have HNO := Lib.hid hno
  have HP := Lib.hid hP
  have HPR := Lib.hid hp
  have HR := Lib.hid (RowV.of_alloc w 38 (tmV T))
  have HB := Lib.hid (belB w (.cells (tmV T).toArray 38))
  have HI2 := Lib.hid (szT hl)
  clear hP hck hno hp hl hs hk hv
  generalize NtP w T D wn = Post at *
  go_enter Tryd.func18, Tryd.ntmps18
  go_wp2_with ((show wpList _ _ _ (⟨_, .load _ _, _, _, _, _⟩ :: _) _ _); refine wpList_load_mid rfl 38 _ rfl w.heap.size 0 rfl (tmV T) _ HR.out.all Tryd.underlying38 rfl HI2.out ?_)
  refine (HCK.out _).mono ?_
  rintro e w1 ⟨he, hb1⟩
  subst he
  have R1 := Lib.hid (HR.out.up hb1)
  have B1 := Lib.hid (HB.out.trans (hb1.mono HB.out.size))
  clear hb1 HR HB HCK
  go_wp2_with ((show wpList _ _ _ (⟨_, .load _ _, _, _, _, _⟩ :: _) _ _); refine wpList_load_mid rfl 38 _ rfl w.heap.size 0 rfl (tmV T) _ R1.out.all Tryd.underlying38 rfl HI2.out ?_)
  refine (HNO.out _ (HPR.out.below B1.out)).mono ?_
  rintro e w2 ⟨N, hN, he, hb2⟩
  subst he
  have B2 := Lib.hid (B1.out.trans (hb2.mono B1.out.size))
  have r0 := RowV.of_alloc w2 90 (fl7 zero12)
  have hlN := hN.1
  have hlen : (fl7 N).length = 84 := by rw [fl7_len, hlN]
  have hth : (w2.alloc (.cells (fl7 zero12).toArray 90)).there w2.heap.size 0 (fl7 N).toArray.size := r0.there (by rw [List.size_toArray, hlen]; decide)
  have r1 := r0.setCells (fl7 N) 0 _ _ (by rw [hlen]; decide)
  have e4 : (fl7 zero12).take 0 ++ fl7 N ++ (fl7 zero12).drop (0 + (fl7 N).length) = fl7 N := by
    rw [List.drop_eq_nil_of_le (by rw [hlen]; decide)]; simp
  rw [e4] at r1
  have bA := below_setCells (g := w2.heap.size) (fl7 N) 0 _ (belB w2 (.cells (fl7 zero12).toArray 90)) (Nat.le_refl _)
  have hsz : (Tryd.prog.info? 90).map (·.size) = some (fl7 N).length := by rw [hlen]; kernel_rfl
  have hone : (fl7 N).toArray.all (·.oneCell') = true := all_oneCell_toArray fun v hv => by
    obtain ⟨r, _, hr⟩ := List.mem_flatMap.1 hv
    simp only [cellsR, List.mem_cons, List.not_mem_nil, or_false] at hr
    rcases hr with h | h | h | h | h | h | h <;> subst h <;> rfl
  have HTH := Lib.hid hth
  have R4 := Lib.hid r1
  have BA := Lib.hid (B2.out.trans (bA.mono B2.out.size))
  have HSZ : Hid ((Tryd.prog.info? 90).map (·.size) = some (fl7 N).toArray.size) := Lib.hid (by rw [List.size_toArray]; exact hsz)
  have HON := Lib.hid hone
  have HN := Lib.hid hN
  have hgs := B2.out.size
  clear r0 r1 e4 bA hsz hone hth hN hb2 hlN hlen R1 B1 HNO
  go_wp2_with ((show wpList _ _ _ (⟨_, .store _ _ _, _, _, _, _⟩ :: _) _ _); refine wpList_store_mid rfl 90 _ _ rfl w2.heap.size 0 (fl7 N).toArray rfl rfl HTH.out HSZ.out HON.out ?_)
  rw [HP.out]
  exact ⟨N, w2.heap.size, HN.out, rfl, R4.out, hgs, BA.out⟩
end Go.Proofs.YtkoghdgfllichaaDoor.Pc
namespace Go.Proofs.YtkoghdgfllichaaDoor.Pc
open Go.RowKit Tp

/-! tune, of a valid standard and temperament. -/
theorem szTun (L : List Value) (h : L.length = 4) : (Tryd.prog.info? 100).map (·.size) = some L.length := by rw [h]; kernel_rfl
def TunV (a t0 t : Int) (g : Nat) : List Value := [.int .i64 a, .int .i64 t0, .int .i64 t, .slice (some ⟨g, 0, none⟩) 12 12]
def TuP (w : World) (a t0 t : Int) (T : Tm) (D : Int) (wn : Nat) (e : Ending) (w' : World) : Prop := ∃ N g, NotesL D (fN T D) wn 12 N ∧ e = .returned (.tuple #[.agg (TunV a t0 t g).toArray, .int .i64 0]) ∧ RowV w' g 90 (fl7 N) ∧ w.heap.size ≤ g ∧ Below w.heap.size w w'
set_option maxRecDepth 100000 in
set_option maxHeartbeats 2000000 in
theorem tune_ok (a t0 t : Int) (T : Tm) (D : Int) (wn : Nat) (w : World) (hp : PrL w) (hst : stdE a t0 t = 0) (hl : T.ps.length = 12) (hs : T.nm.size ≤ maxLen) (hk : chkT T = 0) (hv : Vd T D wn) : Calls Tryd.prog 67 #[.agg #[.int .i64 a, .int .i64 t0, .int .i64 t], .agg (tmV T).toArray] w (TuP w a t0 t T D wn) := by
  have hP : ∀ e w', TuP w a t0 t T D wn e w' = (∃ N g, NotesL D (fN T D) wn 12 N ∧ e = .returned (.tuple #[.agg (TunV a t0 t g).toArray, .int .i64 0]) ∧ RowV w' g 90 (fl7 N) ∧ w.heap.size ≤ g ∧ Below w.heap.size w w') := fun _ _ => rfl
  have hck := fun W => pCheck_any a t0 t W
  rw [hst] at hck
  have hno := fun W (h : PrL W) => Notes_ok T D wn W h hl hs hk hv
  obtain ⟨W, hW⟩ : ∃ W, W = ((w.alloc (.cells #[.int .i64 a, .int .i64 t0, .int .i64 t] 50)).alloc (.cells (tmV T).toArray 38)).alloc (.cells #[.int .i64 0, .int .i64 0, .int .i64 0, .slice none 0 0] 100) := ⟨_, rfl⟩
  have b0 : RowV W w.heap.size 50 [.int .i64 a, .int .i64 t0, .int .i64 t] := by rw [hW]; exact ((RowV.of_alloc w 50 [.int .i64 a, .int .i64 t0, .int .i64 t]).alloc _).alloc _
  have b1 : RowV W (w.heap.size + 1) 38 (tmV T) := by
    have h := (RowV.of_alloc (w.alloc (.cells #[.int .i64 a, .int .i64 t0, .int .i64 t] 50)) 38 (tmV T)).alloc (.cells #[.int .i64 0, .int .i64 0, .int .i64 0, .slice none 0 0] 100)
    rw [World.size_alloc] at h
    rw [hW]; exact h
  have b2 : RowV W (w.heap.size + 1 + 1) 100 [.int .i64 0, .int .i64 0, .int .i64 0, .slice none 0 0] := by
    have h := RowV.of_alloc ((w.alloc (.cells #[.int .i64 a, .int .i64 t0, .int .i64 t] 50)).alloc (.cells (tmV T).toArray 38)) 100 [.int .i64 0, .int .i64 0, .int .i64 0, .slice none 0 0]
    rw [World.size_alloc, World.size_alloc] at h
    rw [hW]; exact h
  have bw : Below w.heap.size w W := by rw [hW]; exact ((belB w _).alloc (by simp) _).alloc (by simp; omega) _
  have B0 := Lib.hid b0
  have B1 := Lib.hid b1
  have B2 := Lib.hid b2
  have BW := Lib.hid bw
  have HCK := Lib.hid hck
  have HNO := Lib.hid hno
  have HP := Lib.hid hP
  have HPR := Lib.hid hp
  have HI2 := Lib.hid (szT hl)
  have k0 := b0.cell (i := 0) rfl
  have k1 := b0.cell (i := 1) rfl
  have k2 := b0.cell (i := 2) rfl
  clear hP hck hno hp hl hs hk hv hst b0 b1 b2 bw
  generalize TuP w a t0 t T D wn = Post at *
  have KK := Lib.hid (And.intro k0 (And.intro k1 k2))
  clear k0 k1 k2
  subst hW
  obtain ⟨k0, k1, k2⟩ := KK.out
  clear KK
  go_enter Tryd.func67, Tryd.ntmps67
  go_wp2_with fail
  refine (HCK.out _).mono ?_
  rintro e w1 ⟨he, hb1⟩
  subst he
  have R0 := Lib.hid (B0.out.up hb1)
  have R1 := Lib.hid (B1.out.up hb1)
  have R2 := Lib.hid (B2.out.up hb1)
  have RB := Lib.hid (BW.out.trans (hb1.mono BW.out.size))
  clear hb1 B0 B1 B2 BW HCK k0 k1 k2
  go_wp2_with ((show wpList _ _ _ (⟨_, .load _ _, _, _, _, _⟩ :: _) _ _); refine wpList_load_mid rfl 38 _ rfl (w.heap.size + 1) 0 rfl (tmV T) _ R1.out.all Tryd.underlying38 rfl HI2.out ?_)
  refine (HNO.out _ (HPR.out.below RB.out)).mono ?_
  rintro e w2 ⟨N, g, hN, he, hg, hgb, hb2⟩
  subst he
  have q0 := R0.out.up hb2
  have q2 := R2.out.up hb2
  have QB := Lib.hid (RB.out.trans (hb2.mono RB.out.size))
  have k0 := q0.cell (i := 0) rfl
  have k1 := q0.cell (i := 1) rfl
  have k2 := q0.cell (i := 2) rfl
  have m0 := q2.cell (i := 0) rfl
  have m1 := q2.cell (i := 1) rfl
  have m2 := q2.cell (i := 2) rfl
  have m3 := q2.cell (i := 3) rfl
  have z0 := RowV.z (i := 0) q2
  have z1 := RowV.z (i := 1) q2
  have z2 := RowV.z (i := 2) q2
  have z3 := RowV.z (i := 3) q2
  have HG := Lib.hid hg
  have HN := Lib.hid hN
  have hlt := R2.out.lt
  have Q2 := Lib.hid q2
  have hgs := RB.out.size
  clear hb2 q0 q2 hg hN R0 R1 R2 RB HNO
  go_wp2
  have hf : RowV ((((w2.setCell ⟨w.heap.size + 1 + 1, 0, none⟩ (.int .i64 a)).setCell ⟨w.heap.size + 1 + 1, 1, none⟩ (.int .i64 t0)).setCell ⟨w.heap.size + 1 + 1, 2, none⟩ (.int .i64 t)).setCell ⟨w.heap.size + 1 + 1, 3, none⟩ (.slice (some ⟨g, 0, none⟩) 12 12)) (w.heap.size + 1 + 1) 100 (TunV a t0 t g) := (((Q2.out.setCell 0 (.int .i64 a)).setCell 1 (.int .i64 t0)).setCell 2 (.int .i64 t)).setCell 3 (.slice (some ⟨g, 0, none⟩) 12 12)
  have hne : g ≠ w.heap.size + 1 + 1 := by omega
  refine bodyPost_ret (v := .tuple #[.agg (TunV a t0 t g).toArray, .int .i64 0]) (Tp.results_cell_tmp (a := 4) (b := 5) rfl rfl (run_loadVar_mid _ _ 0 _ (TunV a t0 t g) _ hf.all Tryd.underlying100 rfl (szTun _ rfl))) rfl ?_
  rw [HP.out]
  exact ⟨N, g, HN.out, rfl, RowV.far (RowV.far (RowV.far (RowV.far HG.out hne) hne) hne) hne, by omega, (((QB.out.setCell (by show w.heap.size ≤ w.heap.size + 1 + 1; omega) _).setCell (by show w.heap.size ≤ w.heap.size + 1 + 1; omega) _).setCell (by show w.heap.size ≤ w.heap.size + 1 + 1; omega) _).setCell (by show w.heap.size ≤ w.heap.size + 1 + 1; omega) _⟩
end Go.Proofs.YtkoghdgfllichaaDoor.Pc
