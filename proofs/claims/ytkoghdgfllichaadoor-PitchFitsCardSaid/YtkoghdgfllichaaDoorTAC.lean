import Derived.Test.YtkoghdgfllichaaDoorTPB
namespace Go.Proofs.YtkoghdgfllichaaDoor.Tp
open Go.RowKit

def NotesL (D : Int) (F : Nat → V6) (wn i : Nat) (N : List Rt) : Prop := N.length = 12 ∧ ∀ j, j < i → ∃ r, N[7 * j % 12]? = some r ∧ NoteIs D F wn j r
def NtRel (w : World) (T : Tm) (D : Int) (wn gl : Nat) (iv : Value) (wr : World) : Prop :=
  ∃ (i : Nat) (note : Rt) (N : List Rt), i ≤ 12 ∧ iv = .int .i64 (i : Int) ∧ NoteIs D (fN T D) wn i note ∧ NotesL D (fN T D) wn i N ∧ RowV wr (w.heap.size + 1) 90 (fl7 zero12) ∧ RowV wr (w.heap.size + 1 + 1) 90 (fl7 N) ∧ RowV wr gl 24 (cellsR note) ∧ Below w.heap.size w wr
theorem NotesL.step {D : Int} {F : Nat → V6} {wn i : Nat} {N : List Rt} {r : Rt} (h : NotesL D F wn i N) (hi : i < 12) (hn : NoteIs D F wn i r) : NotesL D F wn (i + 1) (N.set (7 * i % 12) r) := by
  refine ⟨by rw [List.length_set]; exact h.1, fun j hj => ?_⟩
  by_cases e : j = i
  · subst e
    exact ⟨r, List.getElem?_set_self (by rw [h.1]; omega), hn⟩
  · obtain ⟨s, h1, h2⟩ := h.2 j (by omega)
    refine ⟨s, ?_, h2⟩
    rw [List.getElem?_set_ne (by omega)]
    exact h1
/-- What notesOf returns. -/
def NotesP (w : World) (T : Tm) (D : Int) (wn : Nat) (e : Ending) (w' : World) : Prop := ∃ N, NotesL D (fN T D) wn 12 N ∧ e = .returned (.agg (fl7 N).toArray) ∧ Below w.heap.size w w'
def z7 : Array Value := #[.int .i64 0, .int .i64 0, .int .i64 0, .int .i64 0, .int .i64 0, .int .i64 0, .int .i64 0]
set_option maxRecDepth 100000 in
set_option maxHeartbeats 1000000 in
theorem notesOf_any (T : Tm) (D : Int) (wn : Nat) (w : World) (hp : PrL w) (hl : T.ps.length = 12) (hv : Vd T D wn) : Calls Tryd.prog 52 #[.agg (tmV T).toArray] w (NotesP w T D wn) := by
  have hz := zero65
  have HR0 := Lib.hid (((RowV.of_alloc w 38 (tmV T)).alloc (.cells (fl7 zero12).toArray 90)).alloc (.cells (fl7 zero12).toArray 90))
  have hr1 : RowV ((w.alloc (.cells (tmV T).toArray 38)).alloc (.cells (fl7 zero12).toArray 90)) (w.heap.size + 1) 90 (fl7 zero12) := by
    have h := RowV.of_alloc (w.alloc (.cells (tmV T).toArray 38)) 90 (fl7 zero12)
    simp only [World.size_alloc] at h
    exact h
  have hr2 : RowV (((w.alloc (.cells (tmV T).toArray 38)).alloc (.cells (fl7 zero12).toArray 90)).alloc (.cells (fl7 zero12).toArray 90)) (w.heap.size + 1 + 1) 90 (fl7 zero12) := by
    have h := RowV.of_alloc ((w.alloc (.cells (tmV T).toArray 38)).alloc (.cells (fl7 zero12).toArray 90)) 90 (fl7 zero12)
    simp only [World.size_alloc] at h
    exact h
  have HR1 := Lib.hid (hr1.alloc (.cells (fl7 zero12).toArray 90))
  have HR2 := Lib.hid hr2
  have HB := Lib.hid (((belB w (.cells (tmV T).toArray 38)).alloc (by simp) (.cells (fl7 zero12).toArray 90)).alloc (by simp; omega) (.cells (fl7 zero12).toArray 90))
  have HI2 := Lib.hid (szT hl)
  have HP := Lib.hid hp
  have hra := fun W (h : PrL W) => ratio_any 1 1 W h
  have hn0 : (ofW 1 1).1 = lowR (octV 0) D := by
    rw [of_low D (by have := hv.d1; omega) of_11]; congr 1; unfold V6.scl octV; simp
  rw [hn0] at hra
  have HN0 := Lib.hid (hv.circ.note_zero)
  have HST := Lib.hid (fun i r r' (hi : i < 12) (hn : NoteIs D (fN T D) wn i r) (hf : FoldIs (bothW r (lowR (FF D (fN T D) wn i) D) 1).1 r') => circ_note_step hv.circ hi hn hf)
  have HFI := Lib.hid (fun i (hi : i < 12) => hv.fif hi)
  have HIX := Lib.hid (fun i r (h : (fifR T wn)[i]? = some r) W => idx7 (fifR_len T wn) h W)
  have HFF := Lib.hid (fun W (h : PrL W) => fifthsOf_any T wn W h hl hv.wo hv.w)
  have HRA := Lib.hid hra
  generalize lowR (octV 0) D = note0 at *
  clear hr1 hr2 hp hl hra hn0 hv
  go_enter Tryd.func52, Tryd.ntmps52
  go_wp2_with fail
  refine (HRA.out _ (HP.out.below (HB.out.mono (Nat.le_refl _)))).mono ?_
  rintro e w1 ⟨he, hb1⟩
  subst he
  have hr0 := HR0.out.up (hb1.mono (by simp))
  have hr1 := HR1.out.up (hb1.mono (by simp))
  have hr2 := HR2.out.up (hb1.mono (by simp))
  have hb := HB.out.trans (hb1.mono (by simp; omega))
  have hz1 := HR2.out.lt
  have hsz := hb1.size
  obtain ⟨wl, hwl⟩ : ∃ wl, wl = (w1.alloc (.cells #[.int .i64 0, .int .i64 0, .int .i64 0, .int .i64 0, .int .i64 0, .int .i64 0, .int .i64 0] 24)).setCells w1.heap.size 0 (cellsR note0).toArray.toList := ⟨_, rfl⟩
  have hth : (w1.alloc (.cells #[.int .i64 0, .int .i64 0, .int .i64 0, .int .i64 0, .int .i64 0, .int .i64 0, .int .i64 0] 24)).there w1.heap.size 0 (cellsR note0).toArray.size := (RowV.of_alloc w1 24 (cellsR Rt.zero)).there (by show 0 + 7 ≤ 7; omega)
  have hrl : RowV wl w1.heap.size 24 (cellsR note0) := by
    have h := (RowV.of_alloc w1 24 (cellsR Rt.zero)).setCells (cellsR note0) 0 _ _ (by show 0 + 7 ≤ 7; omega)
    rw [hwl]
    exact h
  have hbl : Below w.heap.size w wl := by
    rw [hwl]
    exact below_setCells _ _ _ (hb.alloc hb.size _) hb.size
  have hsz1 : w.heap.size + 1 + 1 < w1.heap.size := Nat.lt_of_lt_of_le hz1 hsz
  have hl0 : RowV wl w.heap.size 38 (tmV T) := by rw [hwl]; exact RowV.otherCells (Nat.ne_of_lt (by omega)) _ _ _ (hr0.alloc _)
  have hl1 : RowV wl (w.heap.size + 1) 90 (fl7 zero12) := by rw [hwl]; exact RowV.otherCells (Nat.ne_of_lt (by omega)) _ _ _ (hr1.alloc _)
  have hl2 : RowV wl (w.heap.size + 1 + 1) 90 (fl7 zero12) := by rw [hwl]; exact RowV.otherCells (Nat.ne_of_lt (by omega)) _ _ _ (hr2.alloc _)
  have HTH := Lib.hid hth
  have HL0 := Lib.hid hl0
  have HL1 := Lib.hid hl1
  have HL2 := Lib.hid hl2
  have HRL := Lib.hid hrl
  have HBL := Lib.hid hbl
  have HWL := Lib.hid hwl
  have HSR := Lib.hid (szR note0)
  clear hth hrl hl0 hl1 hl2 hbl hwl hr0 hr1 hr2 hb hb1 hz1 hsz HR0 HR1 HR2 HB
  go_wp2_with (first | (refine wpList_store_mid rfl 24 _ _ rfl w1.heap.size 0 (cellsR note0).toArray rfl rfl HTH.out HSR.out (oneR _) ?_; rw [← HWL.out]) | (refine wpList_load_mid rfl 38 _ rfl w.heap.size 0 rfl (tmV T) _ HL0.out.all Tryd.underlying38 rfl HI2.out ?_))
  refine (HFF.out _ (HP.out.below HBL.out)).mono ?_
  rintro e w2 ⟨he, hb2⟩
  subst he
  obtain ⟨gl, hgl⟩ : ∃ gl, gl = w1.heap.size := ⟨_, rfl⟩
  rw [← hgl] at HRL hsz1
  rw [← hgl]
  have k1 := HL1.out.up hb2
  have k2 := HL2.out.up hb2
  have k3 := HRL.out.up hb2
  have kb := HBL.out.trans (hb2.mono HBL.out.size)
  have K1 := Lib.hid k1
  have K2 := Lib.hid k2
  have K3 := Lib.hid k3
  have KB := Lib.hid kb
  clear hgl HTH HWL HSR HRA HFF HL0 HL1 HL2 HRL HBL k1 k2 k3 kb hb2 HI2
  go_wp2_with fail
  go_loopw [10] (fun iv wr => NtRel w T D wn gl iv wr) (fun iv _ => 12 - (intOf iv).toNat)
  case atStart => exact ⟨0, note0, zero12, Nat.zero_le _, rfl, HN0.out, ⟨rfl, fun j hj => by omega⟩, K1.out, K2.out, K3.out, KB.out⟩
  case round =>
    clear K1 K2 K3 KB HN0
    obtain ⟨i, note, N, hi, rfl, hnt, hN, h1, h2, h3, hb⟩ := hrel
    have HNT := Lib.hid hnt
    have HNL := Lib.hid hN
    have H1 := Lib.hid h1
    have H2 := Lib.hid h2
    have H3 := Lib.hid h3
    have HB := Lib.hid hb
    clear hnt hN h1 h2 h3 hb
    by_cases hil : i < 12
    · have hfi := HFI.out i hil
      have hix := fun W => HIX.out i _ hfi W
      clear hfi
      obtain ⟨fr, hfr⟩ : ∃ fr, fr = lowR (FF D (fN T D) wn i) D := ⟨_, rfl⟩
      rw [← hfr] at hix
      unfold cR cellsR at hix
      obtain ⟨m, hm⟩ : ∃ m, m = 7 * i % 12 := ⟨_, rfl⟩
      have hmI : 7 * (i : Int) % 12 = (m : Int) := by omega
      have hmT : (7 * (i : Int)).tmod 12 = (m : Int) := by rw [Int.tmod_eq_emod_of_nonneg (by omega)]; exact hmI
      have hmlt : (m : Int) < 12 := by omega
      have hilI : (i : Int) < 12 := by omega
      have hszr := HB.out.size
      have h2lt := H2.out.lt
      have h3lt := H3.out.lt
      obtain ⟨W, hW⟩ : ∃ W, W = wr.alloc (.cells #[.int .i64 fr.v.a, .int .i64 fr.v.b, .int .i64 fr.v.c, .int .i64 fr.v.d, .int .i64 fr.v.e, .int .i64 fr.v.f, .int .i64 fr.d] 24) := ⟨_, rfl⟩
      have ha1 : RowV W (w.heap.size + 1) 90 (fl7 zero12) := by rw [hW]; exact H1.out.alloc _
      have ha2 : RowV W (w.heap.size + 1 + 1) 90 (fl7 N) := by rw [hW]; exact H2.out.alloc _
      have ha3 : RowV W gl 24 (cellsR note) := by rw [hW]; exact H3.out.alloc _
      have hap : RowV W wr.heap.size 24 (cellsR fr) := by rw [hW]; exact RowV.of_alloc wr 24 (cellsR fr)
      have hab : Below w.heap.size w W := by rw [hW]; exact HB.out.alloc HB.out.size _
      obtain ⟨W1, hW1⟩ : ∃ W1, W1 = W.setCells (w.heap.size + 1 + 1) (m * 7) (cellsR note).toArray.toList := ⟨_, rfl⟩
      have hth1 : W.there (w.heap.size + 1 + 1) (m * 7) (cellsR note).toArray.size := ha2.there (by rw [fl7_len, HNL.out.1]; show m * 7 + 7 ≤ _; omega)
      have hb1 : RowV W1 (w.heap.size + 1) 90 (fl7 zero12) := by rw [hW1]; exact RowV.otherCells (Nat.ne_of_lt (by omega)) _ _ _ ha1
      have hb2 : RowV W1 (w.heap.size + 1 + 1) 90 (fl7 (N.set m note)) := by rw [hW1]; exact ha2.put7 note (by rw [HNL.out.1]; omega)
      have hb3 : RowV W1 gl 24 (cellsR note) := by rw [hW1]; exact RowV.otherCells (Nat.ne_of_gt (by omega)) _ _ _ ha3
      have hbp : RowV W1 wr.heap.size 24 (cellsR fr) := by rw [hW1]; exact RowV.otherCells (Nat.ne_of_gt (by omega)) _ _ _ hap
      have hbb : Below w.heap.size w W1 := by rw [hW1]; exact below_setCells _ _ _ hab (by omega)
      have hNm := HNL.out.step hil HNT.out
      rw [← hm] at hNm
      have hab2 := hab
      rw [hW] at ha3 hth1 hW1
      have A3 := Lib.hid ha3.all
      have TH1 := Lib.hid hth1
      have B1 := Lib.hid hb1
      have B2 := Lib.hid hb2
      have B3 := Lib.hid hb3
      have BP := Lib.hid hbp
      have BB := Lib.hid hbb
      have HW1 := Lib.hid hW1
      have HFR := Lib.hid hfr
      have HNM := Lib.hid hNm
      clear ha1 ha2 ha3 hap hab hab2 hth1 hb1 hb2 hb3 hbp hbb hW hW1 hfr hNm hm H1 H2 H3 HB
      go_wp2_with (first | (refine wpList_load_mid rfl 24 _ rfl gl 0 rfl (cellsR note) _ A3.out Tryd.underlying24 rfl (szR _) ?_) | (refine wpList_store_mid rfl 24 _ _ rfl (w.heap.size + 1 + 1) (m * 7) (cellsR note).toArray rfl rfl TH1.out (szR _) (oneR _) ?_; rw [← HW1.out]) | (refine wpList_load_mid rfl 24 _ rfl gl 0 rfl (cellsR note) _ B3.out.all Tryd.underlying24 rfl (szR _) ?_) | (refine wpList_load_mid rfl 24 _ rfl wr.heap.size 0 rfl (cellsR fr) _ BP.out.all Tryd.underlying24 rfl (szR _) ?_))
      refine (mulR note fr _).mono ?_
      rintro e w3 ⟨he, hb3⟩
      subst he
      have hpw := HP.out.below (BB.out.trans (hb3.mono BB.out.size))
      have c1 := B1.out.up hb3
      have c2 := B2.out.up hb3
      have c3 := B3.out.up hb3
      have cb := BB.out.trans (hb3.mono BB.out.size)
      have hpo := Lib.hid hpw
      clear hpw B1 B2 B3 BB BP hb3 A3 TH1 HW1
      obtain ⟨x, hx⟩ : ∃ x, x = (bothW note fr 1).1 := ⟨_, rfl⟩
      rw [← hx]
      have HXE := Lib.hid hx
      have C1 := Lib.hid c1
      have C2 := Lib.hid c2
      have C3 := Lib.hid c3
      have CB := Lib.hid cb
      clear hx c1 c2 c3 cb
      go_wp2_with fail
      refine (foldR x _ hpo.out).mono ?_
      rintro e w4 ⟨r, hf, he, hb4⟩
      subst he
      have hf2 := hf
      rw [HXE.out, HFR.out] at hf2
      have hnt2 := HST.out i note r hil HNT.out hf2
      have c1 := C1.out.up hb4
      have c2 := C2.out.up hb4
      have c3 := C3.out.up hb4
      have cb := CB.out.trans (hb4.mono CB.out.size)
      have hth4 : w4.there gl 0 (cellsR r).toArray.size := c3.there (by show 0 + 7 ≤ 7; omega)
      have D1 := Lib.hid c1
      have D2 := Lib.hid c2
      have D3 := Lib.hid c3
      have DB := Lib.hid cb
      have TH4 := Lib.hid hth4
      have HNT2 := Lib.hid hnt2
      clear hf hf2 hnt2 c1 c2 c3 cb hth4 hb4 C1 C2 C3 CB hpo HXE HFR HNT
      go_wp2_with (((show wpList _ _ _ (⟨_, .store _ _ _, _, _, _, _⟩ :: _) _ _); refine wpList_store_mid rfl 24 _ _ rfl gl 0 (cellsR r).toArray rfl rfl TH4.out (szR _) (oneR _) ?_))
      refine ⟨⟨i + 1, r, N.set m note, by omega, by go_num, HNT2.out, HNM.out, RowV.otherCells (Nat.ne_of_lt (by omega)) _ _ _ D1.out, RowV.otherCells (Nat.ne_of_lt (by omega)) _ _ _ D2.out, D3.out.setCells (cellsR r) 0 _ _ (by show 0 + 7 ≤ 7; omega), below_setCells _ _ _ DB.out (by omega)⟩, by simp [intOf]; omega⟩
    · obtain rfl : i = 12 := by omega
      have h2lt := H2.out.lt
      have hnl := HNL.out.1
      have hth2 : wr.there (w.heap.size + 1) 0 (fl7 N).toArray.size := H1.out.there (by rw [List.size_toArray, fl7_len, fl7_len, hnl]; show _ ≤ 7 * 12; omega)
      have hr4 : RowV (wr.setCells (w.heap.size + 1) 0 (fl7 N)) (w.heap.size + 1) 90 (fl7 N) := by
        have h := H1.out.setCells (fl7 N) 0 _ _ (by rw [fl7_len, fl7_len, hnl]; show _ ≤ 7 * 12; omega)
        have e : (fl7 zero12).take 0 ++ fl7 N ++ (fl7 zero12).drop (0 + (fl7 N).length) = fl7 N := by
          rw [List.drop_eq_nil_of_le (by rw [fl7_len, fl7_len, hnl]; show 7 * 12 ≤ _; omega)]
          simp
        rw [e] at h
        exact h
      have HTH2 := Lib.hid hth2
      have HSZ := Lib.hid (sz65 hnl)
      have HR4 := Lib.hid hr4
      clear hth2 hr4 hnl
      go_wp2_with (first | (refine wpList_load_mid rfl 90 _ rfl (w.heap.size + 1 + 1) 0 rfl (fl7 N) _ H2.out.all Tryd.underlying90 rfl HSZ.out ?_) | (refine wpList_store_mid rfl 90 _ _ rfl (w.heap.size + 1) 0 (fl7 N).toArray rfl rfl HTH2.out HSZ.out (one65 _) ?_))
      exact bodyPost_ret (v := .agg (fl7 N).toArray) (results_cell rfl rfl (run_loadVar_mid _ _ 0 _ _ _ HR4.out.all Tryd.underlying90 rfl HSZ.out)) rfl ⟨N, HNL.out, rfl, below_setCells _ _ _ HB.out (by omega)⟩
end Go.Proofs.YtkoghdgfllichaaDoor.Tp
namespace Go.Proofs.YtkoghdgfllichaaDoor.Tp
open Go.RowKit

set_option maxRecDepth 100000 in
set_option maxHeartbeats 1000000 in
theorem between_any (N : List Rt) (fr to : Nat) (a b : Rt) (w : World) (hp : PrL w) (hl : N.length = 12) (hfr : N[fr]? = some a) (hto : N[to]? = some b) : Calls Tryd.prog 124 #[.agg (fl7 N).toArray, .int .i64 (fr : Int), .int .i64 (to : Int)] w (FoldP w (bothW b a (-1)).1) := by
  have hf12 : (fr : Int) < 12 := by have := (List.getElem?_eq_some_iff.1 hfr).1; omega
  have ht12 : (to : Int) < 12 := by have := (List.getElem?_eq_some_iff.1 hto).1; omega
  obtain ⟨W, hW⟩ : ∃ W, W = (w.alloc (.cells (fl7 N).toArray 90)).alloc (.cells #[.int .i64 0, .int .i64 0, .int .i64 0, .int .i64 0, .int .i64 0, .int .i64 0, .int .i64 0] 24) := ⟨_, rfl⟩
  have ha0 : RowV W w.heap.size 90 (fl7 N) := by rw [hW]; exact (RowV.of_alloc w 90 (fl7 N)).alloc _
  have ha1 : RowV W (w.heap.size + 1) 24 (cellsR Rt.zero) := by
    rw [hW]
    have h := RowV.of_alloc (w.alloc (.cells (fl7 N).toArray 90)) 24 (cellsR Rt.zero)
    simp only [World.size_alloc] at h
    exact h
  have hab : Below w.heap.size w W := by rw [hW]; exact (belB w _).alloc (by simp) _
  have HPW := Lib.hid (hp.below hab)
  have HA0 := Lib.hid ha0
  have HA1 := Lib.hid ha1
  have HAB := Lib.hid hab
  have HFR := Lib.hid hfr
  have HTO := Lib.hid hto
  have HW := Lib.hid hW
  clear ha0 ha1 hab hp hfr hto hW hl
  go_enter Tryd.func124, Tryd.ntmps124
  go_wp2_with fail
  rw [← HW.out]
  refine wp_region_noPanic ?_
  have hb0 : Below W.heap.size W W.drew := (Below.refl _ _).drew
  refine wp_region_held_drew (S := fun w' => RowV w' w.heap.size 90 (fl7 N)) (by kernel_rfl) (HA0.out.up hb0) (fun _ => ?_)
  refine wpAnyH_take (i := 0) (oi := ⟨some 7, _, _, _, _, _⟩) (v := ?_) rfl (by kernel_rfl) (by kernel_rfl) (by kernel_rfl) (fun _ _ _ h => h) (Or.inl ⟨by rfl, ?_⟩) (HA0.out.up hb0) ?_
  rotate_left
  · (intro w hSw; go_simp; (try (with_reducible rfl)))
  (try simp only [Act.put, List.setIfInBounds_toArray, List.set_cons_zero, List.set_cons_succ])
  refine wpAnyH_take (i := 1) (oi := ⟨some 8, _, _, _, _, _⟩) (v := ?_) rfl (by kernel_rfl) (by kernel_rfl) (by kernel_rfl) (fun _ _ _ h => h) (Or.inl ⟨by rfl, ?_⟩) (HA0.out.up hb0) ?_
  rotate_left
  · (intro w hSw; go_simp; (try (with_reducible rfl)))
  (try simp only [Act.put, List.setIfInBounds_toArray, List.set_cons_zero, List.set_cons_succ])
  refine wpAnyH_take (i := 2) (oi := ⟨some 9, _, _, _, _, _⟩) (v := _) rfl (by kernel_rfl) (by kernel_rfl) (by kernel_rfl) (fun _ _ _ h => h) (yieldsIf_load_mid (by rfl) 24 _ rfl w.heap.size (to * 7) rfl (cellsR b) _ (fun w' h => RowV.at7 h HTO.out) Tryd.underlying24 rfl (szR _)) (HA0.out.up hb0) ?_
  (try simp only [Act.put, List.setIfInBounds_toArray, List.set_cons_zero, List.set_cons_succ])
  refine wpAnyH_take (i := 3) (oi := ⟨some 10, _, _, _, _, _⟩) (v := ?_) rfl (by kernel_rfl) (by kernel_rfl) (by kernel_rfl) (fun _ _ _ h => h) (Or.inl ⟨by rfl, ?_⟩) (HA0.out.up hb0) ?_
  rotate_left
  · (intro w hSw; go_simp; (try (with_reducible rfl)))
  (try simp only [Act.put, List.setIfInBounds_toArray, List.set_cons_zero, List.set_cons_succ])
  refine wpAnyH_take (i := 4) (oi := ⟨some 11, _, _, _, _, _⟩) (v := ?_) rfl (by kernel_rfl) (by kernel_rfl) (by kernel_rfl) (fun _ _ _ h => h) (Or.inl ⟨by rfl, ?_⟩) (HA0.out.up hb0) ?_
  rotate_left
  · (intro w hSw; go_simp; (try (with_reducible rfl)))
  (try simp only [Act.put, List.setIfInBounds_toArray, List.set_cons_zero, List.set_cons_succ])
  refine wpAnyH_take (i := 5) (oi := ⟨some 12, _, _, _, _, _⟩) (v := _) rfl (by kernel_rfl) (by kernel_rfl) (by kernel_rfl) (fun _ _ _ h => h) (yieldsIf_load_mid (by rfl) 24 _ rfl w.heap.size (fr * 7) rfl (cellsR a) _ (fun w' h => RowV.at7 h HFR.out) Tryd.underlying24 rfl (szR _)) (HA0.out.up hb0) ?_
  (try simp only [Act.put, List.setIfInBounds_toArray, List.set_cons_zero, List.set_cons_succ])
  refine wpAnyH_ready (rs := [6]) (by kernel_rfl) (by simp) (AllReadyH.cons (o := ⟨some 13, _, _, _, _, _⟩) rfl (fun K hK => ?_) AllReadyH.nil)
  rw [if_pos (by rfl)]
  go_simp
  refine (divR b a _).mono ?_
  rintro e u1 ⟨he, hc1⟩
  subst he
  have hb1 := hb0.trans (hc1.mono hb0.size)
  clear hc1
  (try go_wp2_with fail)
  refine hK.out _ _ (HA0.out.up hb1) (fun _ => ?_)
  clear hK K
  (try simp only [Act.put, List.setIfInBounds_toArray, List.set_cons_zero, List.set_cons_succ])
  refine wpAnyH_ready (rs := [7]) (by kernel_rfl) (by simp) (AllReadyH.cons (o := ⟨some 14, _, _, _, _, _⟩) rfl (fun K hK => ?_) AllReadyH.nil)
  rw [if_pos (by rfl)]
  go_simp
  refine (foldR _ _ (HPW.out.below hb1)).mono ?_
  rintro e u2 ⟨r, hf, he, hc2⟩
  subst he
  have hb2 := hb1.trans (hc2.mono hb1.size)
  clear hc2
  (try go_wp2_with fail)
  refine hK.out _ _ (HA0.out.up hb2) (fun _ => ?_)
  clear hK K
  (try simp only [Act.put, List.setIfInBounds_toArray, List.set_cons_zero, List.set_cons_succ])
  have HFO := Lib.hid hf
  clear hf
  refine wpAnyH_ready (rs := [8]) (by kernel_rfl) (by simp) (AllReadyH.cons (o := ⟨none, _, _, _, _, _⟩) rfl (fun K hK => ?_) AllReadyH.nil)
  rw [if_pos (by rfl)]
  have hth := (HA1.out.up hb2).there (o := 0) (n := 7) (by show 0 + 7 ≤ 7; omega)
  refine wp_store_mid 24 _ _ rfl (w.heap.size + 1) 0 (cellsR r).toArray rfl rfl hth (szR _) (oneR _) ?_
  refine hK.out _ _ (RowV.otherCells (Nat.ne_of_lt (by omega)) _ _ _ (HA0.out.up hb2)) (fun _ => ?_)
  clear hK K
  (try simp only [Act.put, List.setIfInBounds_toArray, List.set_cons_zero, List.set_cons_succ])
  refine wpAnyH_done (by kernel_rfl) ?_ _
  refine NoPanic.normal ?_
  have hr2 := (HA1.out.up hb2).setCells (cellsR r) 0 _ _ (by show 0 + 7 ≤ 7; omega)
  have hbf : Below w.heap.size w (u2.setCells (w.heap.size + 1) 0 (cellsR r)) := below_setCells _ _ _ (HAB.out.trans (hb2.mono HAB.out.size)) (by omega)
  have HR2 := Lib.hid hr2
  have HBF := Lib.hid hbf
  clear hr2 hbf hb0 hb1 hb2 hth
  go_wp2_with fail
  exact bodyPost_ret (v := cR r) (results_cell rfl rfl (run_loadVar_mid _ _ 0 _ (cellsR r) _ HR2.out.all Tryd.underlying24 rfl (szR r))) rfl ⟨r, HFO.out, rfl, HBF.out⟩
end Go.Proofs.YtkoghdgfllichaaDoor.Tp
namespace Go.Proofs.YtkoghdgfllichaaDoor.Tp
open Go.RowKit

def TriR (a b d : Rt) (m1 m2 : Int) : Prop := ∃ r s : Rt, FoldIs (bothW b a (-1)).1 r ∧ CentIs (bothW r (ofW 5 4).1 (-1)).1 m1 ∧ FoldIs (bothW d a (-1)).1 s ∧ CentIs (bothW s (ofW 3 2).1 (-1)).1 m2
def TriP (w : World) (a b d : Rt) (e : Ending) (w' : World) : Prop := ∃ m1 m2 : Int, TriR a b d m1 m2 ∧ e = .returned (.tuple #[.int .i64 m1, .int .i64 m2]) ∧ Below w.heap.size w w'
set_option maxRecDepth 100000 in
set_option maxHeartbeats 1000000 in
theorem triad_any (N : List Rt) (c : Nat) (a b d : Rt) (w : World) (hp : PrL w) (hl : N.length = 12) (hc : c < 12) (ha : N[c]? = some a) (hb : N[(c + 4) % 12]? = some b) (hd : N[(c + 7) % 12]? = some d) : Calls Tryd.prog 89 #[.agg (fl7 N).toArray, .int .i64 (c : Int)] w (TriP w a b d) := by
  obtain ⟨p, hpq⟩ : ∃ p, p = (c + 4) % 12 := ⟨_, rfl⟩
  obtain ⟨q, hqq⟩ : ∃ q, q = (c + 7) % 12 := ⟨_, rfl⟩
  rw [← hpq] at hb
  rw [← hqq] at hd
  have hpI : ((c : Int) + 4) % 12 = (p : Int) := by omega
  have hqI : ((c : Int) + 7) % 12 = (q : Int) := by omega
  have hpT : ((c : Int) + 4).tmod 12 = (p : Int) := by rw [Int.tmod_eq_emod_of_nonneg (by omega)]; exact hpI
  have hqT : ((c : Int) + 7).tmod 12 = (q : Int) := by rw [Int.tmod_eq_emod_of_nonneg (by omega)]; exact hqI
  have hcI : (c : Int) < 12 := by omega
  have HR := Lib.hid (RowV.of_alloc w 90 (fl7 N))
  have HB := Lib.hid (belB w (.cells (fl7 N).toArray 90))
  have HP := Lib.hid hp
  have HSZ := Lib.hid (sz65 hl)
  have HB1 := Lib.hid (fun W (h : PrL W) => between_any N c p a b W h hl ha hb)
  have HB2 := Lib.hid (fun W (h : PrL W) => between_any N c q a d W h hl ha hd)
  have HD := Lib.hid (fun m1 m2 (h : TriR a b d m1 m2) => h)
  clear hp hl ha hb hd hpq hqq
  go_enter Tryd.func89, Tryd.ntmps89
  go_wp2_with (refine wpList_load_mid rfl 90 _ rfl w.heap.size 0 rfl (fl7 N) _ HR.out.all Tryd.underlying90 rfl HSZ.out ?_)
  refine (HB1.out _ (HP.out.below HB.out)).mono ?_
  rintro e w1 ⟨r, hf1, he, hb1⟩
  subst he
  have hr1 := HR.out.up hb1
  have hbb := HB.out.trans (hb1.mono HB.out.size)
  have HF1 := Lib.hid hf1
  have HR1 := Lib.hid hr1
  have HBB1 := Lib.hid hbb
  clear hf1 hr1 hbb hb1 HR HB
  go_wp2_with fail
  refine (ratio_any 5 4 _ (HP.out.below HBB1.out)).mono ?_
  rintro e w2 ⟨he, hb1⟩
  subst he
  have hr1 := HR1.out.up hb1
  have hbb := HBB1.out.trans (hb1.mono HBB1.out.size)
  have HR2 := Lib.hid hr1
  have HBB2 := Lib.hid hbb
  clear hr1 hbb hb1 HR1 HBB1
  go_wp2_with fail
  refine (divR r _ _).mono ?_
  rintro e w3 ⟨he, hb1⟩
  subst he
  have hr1 := HR2.out.up hb1
  have hbb := HBB2.out.trans (hb1.mono HBB2.out.size)
  have HR3 := Lib.hid hr1
  have HBB3 := Lib.hid hbb
  clear hr1 hbb hb1 HR2 HBB2
  go_wp2_with fail
  refine (centR _ _ (HP.out.below HBB3.out)).mono ?_
  rintro e w4 ⟨m1, hm1, he, hb1⟩
  subst he
  have hr1 := HR3.out.up hb1
  have hbb := HBB3.out.trans (hb1.mono HBB3.out.size)
  have HM1 := Lib.hid hm1
  have HR4 := Lib.hid hr1
  have HBB4 := Lib.hid hbb
  clear hm1 hr1 hbb hb1 HR3 HBB3
  go_wp2_with (refine wpList_load_mid rfl 90 _ rfl w.heap.size 0 rfl (fl7 N) _ HR4.out.all Tryd.underlying90 rfl HSZ.out ?_)
  refine (HB2.out _ (HP.out.below HBB4.out)).mono ?_
  rintro e w5 ⟨s, hf2, he, hb1⟩
  subst he
  have hbb := HBB4.out.trans (hb1.mono HBB4.out.size)
  have HF2 := Lib.hid hf2
  have HBB5 := Lib.hid hbb
  clear hf2 hbb hb1 HBB4 HR4
  go_wp2_with fail
  refine (ratio_any 3 2 _ (HP.out.below HBB5.out)).mono ?_
  rintro e w6 ⟨he, hb1⟩
  subst he
  have hbb := HBB5.out.trans (hb1.mono HBB5.out.size)
  have HBB6 := Lib.hid hbb
  clear hbb hb1 HBB5
  go_wp2_with fail
  refine (divR s _ _).mono ?_
  rintro e w7 ⟨he, hb1⟩
  subst he
  have hbb := HBB6.out.trans (hb1.mono HBB6.out.size)
  have HBB7 := Lib.hid hbb
  clear hbb hb1 HBB6
  go_wp2_with fail
  refine (centR _ _ (HP.out.below HBB7.out)).mono ?_
  rintro e w8 ⟨m2, hm2, he, hb1⟩
  subst he
  have hbb := HBB7.out.trans (hb1.mono HBB7.out.size)
  have HM2 := Lib.hid hm2
  have HBB8 := Lib.hid hbb
  clear hm2 hbb hb1 HBB7
  go_wp2_with fail
  go_ret2
  exact ⟨m1, m2, ⟨r, s, HF1.out, HM1.out, HF2.out, HM2.out⟩, rfl, HBB8.out⟩
end Go.Proofs.YtkoghdgfllichaaDoor.Tp
namespace Go.Proofs.YtkoghdgfllichaaDoor.Tp
open Go.RowKit

theorem NotesL.at {D : Int} {F : Nat → V6} {wn c : Nat} {N : List Rt} (h : NotesL D F wn 12 N) (hc : c < 12) : ∃ r, N[c]? = some r ∧ NoteIs D F wn (7 * c % 12) r := by
  obtain ⟨r, h1, h2⟩ := h.2 (7 * c % 12) (by omega)
  rw [show 7 * (7 * c % 12) % 12 = c by omega] at h1
  exact ⟨r, h1, h2⟩
def CenL (N : List Rt) (step : Int) (i : Nat) (M : List Int) : Prop := M.length = 12 ∧ ∀ j, j < i → ∃ r x, N[j]? = some r ∧ M[j]? = some x ∧ CentIs r (x + step * j)
def CaRel (w : World) (N : List Rt) (step : Int) (g : Nat) (iv : Value) (wr : World) : Prop :=
  ∃ (i : Nat) (M : List Int), i ≤ 12 ∧ iv = .int .i64 (i : Int) ∧ CenL N step i M ∧ RowI wr g 2 M ∧ Below w.heap.size w wr
def CenP (w : World) (T : Tm) (D : Int) (wn : Nat) (step : Int) (e : Ending) (w' : World) : Prop := ∃ N M g, NotesL D (fN T D) wn 12 N ∧ CenL N step 12 M ∧ e = .returned (.slice (some ⟨g, 0, none⟩) 12 12) ∧ RowI w' g 2 M ∧ w.heap.size ≤ g ∧ Below w.heap.size w w'
theorem CentIs.bd {r : Rt} {m : Int} (hr : r.Ok) (h : CentIs r m) : -1000000000000 ≤ m ∧ m ≤ 1000000000000 := by
  obtain ⟨b, er, h | h⟩ := h hr
  · exact ⟨h.2.2.2.1, h.2.2.2.2⟩
  · have := h.2.1; omega
def zr12 : List Int := List.replicate 12 0
theorem Tryd.infoI64 : (Tryd.prog.info? 2).map (fun i => (i.zero, i.size, i.bytes)) = some (some (.int .i64 0), 1, 8) := by kernel_rfl
theorem mk12 (w : World) : (Instr.makeSlice 72 (.int .i64 12) (.int .i64 12)).run Tryd.prog w = .ok (.slice (some ⟨w.heap.size, 0, none⟩) 12 12) (w.alloc (.cells (zr12.map (Value.int .i64)).toArray 2)) := by
  obtain ⟨i0, hi, hz0, hz1, hz2⟩ := info_parts Tryd.infoI64
  have h := run_make (P := Tryd.prog) w 72 2 i0 _ Tryd.underlying72 hi hz0 .i64 .i64 12 12 (by omega) (by omega) (by rw [hz2]; omega) (by omega)
  rw [hz1] at h
  have e : madeCells (Value.int .i64 0).cells 12 = (zr12.map (Value.int .i64)).toArray := by
    apply Array.toList_inj.1
    rw [show (Value.int .i64 0).cells = #[Value.int .i64 0] from rfl, toList_madeCells_one]
    rfl
  exact e ▸ h
set_option maxRecDepth 100000 in
set_option maxHeartbeats 1000000 in
theorem centsAbove_any (T : Tm) (D : Int) (wn : Nat) (step : Int) (w : World) (hp : PrL w) (hl : T.ps.length = 12) (hv : Vd T D wn) (hs1 : 0 ≤ step) (hs2 : step ≤ 100000) : Calls Tryd.prog 86 #[.agg (tmV T).toArray, .int .i64 step] w (CenP w T D wn step) := by
  have HR0 := Lib.hid (RowV.of_alloc w 38 (tmV T))
  have HB := Lib.hid (belB w (.cells (tmV T).toArray 38))
  have HI2 := Lib.hid (szT hl)
  have HP := Lib.hid hp
  have HNO := Lib.hid (fun W (h : PrL W) => notesOf_any T D wn W h hl hv)
  have HC := Lib.hid hv.circ
  clear hp hl hv
  go_enter Tryd.func86, Tryd.ntmps86
  have hmk := mk12 (w.alloc (.cells (tmV T).toArray 38))
  rw [World.size_alloc] at hmk
  have hr1 : RowI ((w.alloc (.cells (tmV T).toArray 38)).alloc (.cells (zr12.map (Value.int .i64)).toArray 2)) (w.heap.size + 1) 2 zr12 := by
    have h := RowI.of_alloc (w.alloc (.cells (tmV T).toArray 38)) 2 zr12
    rw [World.size_alloc] at h
    exact h
  have HR1 := Lib.hid hr1
  have HR2 := Lib.hid (HR0.out.alloc (.cells (zr12.map (Value.int .i64)).toArray 2))
  have HB2 := Lib.hid (HB.out.alloc HB.out.size (.cells (zr12.map (Value.int .i64)).toArray 2))
  clear hr1 HR0 HB
  go_wp2_with ((show wpList _ _ _ (⟨_, .load _ _, _, _, _, _⟩ :: _) _ _); refine wpList_load_mid rfl 38 _ rfl w.heap.size 0 rfl (tmV T) _ HR2.out.all Tryd.underlying38 rfl HI2.out ?_)
  refine (HNO.out _ (HP.out.below HB2.out)).mono ?_
  rintro e w1 ⟨N, hN, he, hb1⟩
  subst he
  have hg := HR1.out.up hb1
  have hbb := HB2.out.trans (hb1.mono HB2.out.size)
  have HIX := Lib.hid (fun i r (h : N[i]? = some r) W => idx7 hN.1 h W)
  have HN := Lib.hid hN
  have HG := Lib.hid hg
  have HBB := Lib.hid hbb
  clear hN hg hbb hb1 HR1 HR2 HB2 HNO HI2 hmk
  obtain ⟨g, hgE⟩ : ∃ g, g = w.heap.size + 1 := ⟨_, rfl⟩
  rw [← hgE] at HG ⊢
  have hgle : w.heap.size ≤ g := by omega
  clear hgE
  go_wp2_with fail
  go_loopw [11] (fun iv wr => CaRel w N step g iv wr) (fun iv _ => 12 - (intOf iv).toNat)
  case atStart => exact ⟨0, zr12, Nat.zero_le _, rfl, ⟨rfl, fun j hj => by omega⟩, HG.out, HBB.out⟩
  case round =>
    clear HG HBB
    obtain ⟨i, M, hi, rfl, hM, hrow, hb⟩ := hrel
    have HM := Lib.hid hM
    have HROW := Lib.hid hrow
    have HB := Lib.hid hb
    clear hM hrow hb
    by_cases hil : i < 12
    · obtain ⟨r, hr, hnr⟩ := HN.out.at hil
      have hok := HC.out.note_ok (by omega) hnr
      have hix := fun W => HIX.out i r hr W
      unfold cR cellsR at hix
      have hilI : (i : Int) < 12 := by omega
      have HNR := Lib.hid hr
      have HOK := Lib.hid hok
      clear hr hnr hok
      have hpw := HP.out.below (HB.out.alloc HB.out.size (.cells #[.int .i64 r.v.a, .int .i64 r.v.b, .int .i64 r.v.c, .int .i64 r.v.d, .int .i64 r.v.e, .int .i64 r.v.f, .int .i64 r.d] 24))
      have hap := RowV.of_alloc wr 24 (cellsR r)
      have hglt := HROW.out.lt
      have HPW := Lib.hid hpw
      have HAP := Lib.hid hap.all
      clear hpw hap
      go_wp2_with ((show wpList _ _ _ (⟨_, .load _ _, _, _, _, _⟩ :: _) _ _); refine wpList_load_mid rfl 24 _ rfl wr.heap.size 0 rfl (cellsR r) _ HAP.out Tryd.underlying24 rfl (szR r) ?_)
      refine (centR r _ HPW.out).mono ?_
      rintro e w2 ⟨m, hm, he, hb2⟩
      subst he
      have hmb := hm.bd HOK.out
      have h1 : 0 ≤ step * (i : Int) := Int.mul_nonneg hs1 (by omega)
      have h2 : step * (i : Int) ≤ 100000 * 12 := Int.mul_le_mul hs2 (by omega) (by omega) (by omega)
      obtain ⟨p, hp⟩ : ∃ p, p = step * (i : Int) := ⟨_, rfl⟩
      have hpw : step * (i : Int) = p := hp.symm
      have hpw2 : IntKind.i64.wrap (step * (i : Int)) = p := by rw [hpw]; exact IntWalk.i64_in _ (by omega)
      rw [hpw] at h1 h2
      have hrow2 := (HROW.out.alloc (.cells #[.int .i64 r.v.a, .int .i64 r.v.b, .int .i64 r.v.c, .int .i64 r.v.d, .int .i64 r.v.e, .int .i64 r.v.f, .int .i64 r.d] 24)).up hb2
      have hbb := (HB.out.alloc HB.out.size (.cells #[.int .i64 r.v.a, .int .i64 r.v.b, .int .i64 r.v.c, .int .i64 r.v.d, .int .i64 r.v.e, .int .i64 r.v.f, .int .i64 r.d] 24)).trans (hb2.mono (HB.out.alloc HB.out.size _).size)
      obtain ⟨z, hz⟩ : ∃ z, M[i]? = some z := ⟨M[i]'(by rw [HM.out.1]; omega), List.getElem?_eq_getElem _⟩
      have c0 := hrow2.cell hz
      have f0 := hrow2.frozen i
      have HMM := Lib.hid hm
      have HPE := Lib.hid hp
      have HROW2 := Lib.hid hrow2
      have HBB := Lib.hid hbb
      clear hm hp hz hrow2 hbb hb2
      go_wp2
      refine ⟨⟨i + 1, M.set i (m - p), by omega, by go_num, ⟨by rw [List.length_set]; exact HM.out.1, fun j hj => ?_⟩, HROW2.out.set i (m - p), HBB.out.setCell hgle _⟩, by simp [intOf]; omega⟩
      by_cases e : j = i
      · subst e
        refine ⟨r, m - p, HNR.out, List.getElem?_set_self (by rw [HM.out.1]; omega), ?_⟩
        rw [HPE.out, show m - step * (j : Int) + step * (j : Int) = m by omega]
        exact HMM.out
      · obtain ⟨r2, x2, q1, q2, q3⟩ := HM.out.2 j (by omega)
        exact ⟨r2, x2, q1, by rw [List.getElem?_set_ne (by omega)]; exact q2, q3⟩
    · obtain rfl : i = 12 := by omega
      go_wp2
      go_ret
      exact ⟨N, M, g, HN.out, HM.out, rfl, HROW.out, hgle, HB.out⟩
end Go.Proofs.YtkoghdgfllichaaDoor.Tp
