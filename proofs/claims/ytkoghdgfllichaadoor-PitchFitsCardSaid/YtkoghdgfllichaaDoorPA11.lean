import Derived.Test.YtkoghdgfllichaaDoorPAE
namespace Go.Proofs.YtkoghdgfllichaaDoor.Pc
open Go.RowKit Tp

/-! atT0: the frequency of a note at the temperature T0. -/
/-- The ratio of a note to the note 69. -/
def noR (x y : Rt) (n : Nat) : Rt := ⟨(bothW x y (-1)).1.v.two (((n : Int) / 12 - 5) * (bothW x y (-1)).1.d), (bothW x y (-1)).1.d⟩
set_option maxRecDepth 100000 in
set_option maxHeartbeats 4000000 in
theorem atT0_ok (a : Nat) (t0 t : Int) (g n q : Nat) (N : List Rt) (x y : Rt) (w : World) (hp : PrL w) (hn : n ≤ 139) (hq : q = n % 12) (hg : RowV w g 90 (fl7 N)) (hx : N[q]? = some x) (hy : N[9]? = some y)
    (hd1 : 1 ≤ (bothW x y (-1)).1.d) (hd2 : (bothW x y (-1)).1.d ≤ 1000) (hv1 : -1000000 ≤ (bothW x y (-1)).1.v.a) (hv2 : (bothW x y (-1)).1.v.a ≤ 1000000) (herr : (noR x y n).err = 0) (hbd : Bd 1000000000 (nz (noR x y n).v.zl)) (hln : (nz (noR x y n).v.zl).length ≤ 100) :
    Calls Tryd.prog 103 #[.agg (TunV (a : Int) t0 t g).toArray, .int .i64 (n : Int)] w fun e w' => (∃ V, e = .returned V ∧ RootV w' w.heap.size V (scL (noR x y n).d [(a, 1)] ++ scL 1 (nz (noR x y n).v.zl)) (1 * (noR x y n).d)) ∧ Below w.heap.size w w' := by
  have hdv := fun W => Div_any x.v.a x.v.b x.v.c x.v.d x.v.e x.v.f x.d y.v.a y.v.b y.v.c y.v.d y.v.e y.v.f y.d W
  obtain ⟨⟨r, er⟩, hr⟩ : ∃ r, r = bothW x y (-1) := ⟨_, rfl⟩
  have hrx : bothW ⟨⟨x.v.a, x.v.b, x.v.c, x.v.d, x.v.e, x.v.f⟩, x.d⟩ ⟨⟨y.v.a, y.v.b, y.v.c, y.v.d, y.v.e, y.v.f⟩, y.d⟩ (-1) = (r, er) := hr.symm
  have hno : noR x y n = ⟨r.v.two (((n : Int) / 12 - 5) * r.d), r.d⟩ := by unfold noR; rw [← hr]
  rw [hrx] at hdv
  obtain ⟨R, hR⟩ : ∃ R, R = noR x y n := ⟨_, rfl⟩
  rw [← hR] at herr hbd hln ⊢
  rw [hno] at hR
  rw [← hr] at hd1 hd2 hv1 hv2
  simp only at hd1 hd2 hv1 hv2 hdv
  unfold RtPost at hdv
  obtain ⟨W, hW⟩ : ∃ W, W = (w.alloc (.cells (TunV (a : Int) t0 t g).toArray 100)).alloc (.cells #[.slice none 0 0, .int .i64 0] 102) := ⟨_, rfl⟩
  have b0 : RowV W w.heap.size 100 (TunV (a : Int) t0 t g) := by rw [hW]; exact (RowV.of_alloc w 100 (TunV (a : Int) t0 t g)).alloc _
  have b1 : RowV W (w.heap.size + 1) 102 [.slice none 0 0, .int .i64 0] := by
    have h := RowV.of_alloc (w.alloc (.cells (TunV (a : Int) t0 t g).toArray 100)) 102 [.slice none 0 0, .int .i64 0]
    rw [World.size_alloc] at h
    rw [hW]; exact h
  have bw : Below w.heap.size w W := by rw [hW]; exact (belB w _).alloc (by simp) _
  have hWs := b1.lt
  have RT := Lib.hid b0
  have RR := Lib.hid b1
  have RB := Lib.hid bw
  have RG := Lib.hid (hg.up bw)
  have HDV := Lib.hid hdv
  have HX := Lib.hid hx
  have HY := Lib.hid hy
  have HPR := Lib.hid hp
  have HER := Lib.hid herr
  have HBD := Lib.hid hbd
  have HLN := Lib.hid hln
  have n1 : (n : Int) % 12 = (q : Int) := by omega
  have n2 : (n : Int).tmod 12 = (q : Int) := by rw [Int.tmod_eq_emod_of_nonneg (by omega)]; exact n1
  have q12 : (q : Int) < 12 := by omega
  obtain ⟨o, ho⟩ : ∃ o : Nat, (n : Int) / 12 = (o : Int) := ⟨n / 12, by omega⟩
  have ho2 : (n : Int).tdiv 12 = (o : Int) := by rw [Int.tdiv_eq_ediv_of_nonneg (by omega)]; exact ho
  obtain ⟨k, hk⟩ : ∃ k : Int, k = (o : Int) - 5 := ⟨_, rfl⟩
  have hkb : -5 ≤ k ∧ k ≤ 6 := by omega
  have ow : IntKind.i64.wrap ((o : Int) - 5) = k := by rw [← hk]; exact IntWalk.i64_in _ (by omega)
  obtain ⟨p, hpp⟩ : ∃ p : Int, p = k * r.d := ⟨_, rfl⟩
  have hp1 := Int.mul_le_mul_of_nonneg_right hkb.1 (show (0 : Int) ≤ r.d by omega)
  have hp2 := Int.mul_le_mul_of_nonneg_right hkb.2 (show (0 : Int) ≤ r.d by omega)
  rw [← hpp] at hp1 hp2
  have mw : IntKind.i64.wrap (k * r.d) = p := by rw [← hpp]; exact IntWalk.i64_in _ (by omega)
  obtain ⟨s, hs⟩ : ∃ s : Int, s = r.v.a + p := ⟨_, rfl⟩
  have aw : IntKind.i64.wrap (r.v.a + p) = s := by rw [hs]; exact IntWalk.i64_in _ (by omega)
  have ow' : wrap64 ((o : Int) - 5) = k := (IntWalk.i64_left _).symm.trans ow
  have mw' : wrap64 (k * r.d) = p := (IntWalk.i64_left _).symm.trans mw
  have aw' : wrap64 (r.v.a + p) = s := (IntWalk.i64_left _).symm.trans aw
  have mw2 : wrap64 (((o : Int) - 5) * r.d) = p := by rw [← hk]; exact mw'
  have hob : (o : Int) ≤ 11 := by omega
  have hRc : (cellsR r).set 0 (.int .i64 s) = cellsR R := by rw [hR, ho, ← hk, ← hpp, hs]; rfl
  have hRd : R.d = r.d := by rw [hR]
  have HRC := Lib.hid hRc
  have hte := fun W (h : PrL W) => (Terms_any R.v.a R.v.b R.v.c R.v.d R.v.e R.v.f R.d W h : Calls Tryd.prog 131 #[.agg (cellsR R).toArray] W (TePost W R))
  have HTE := Lib.hid hte
  have HWH := Lib.hid (fun W => whole_any a W)
  have HRD : Hid (1 ≤ R.d ∧ R.d ≤ 1000) := Lib.hid (by rw [hRd]; exact ⟨hd1, hd2⟩)
  clear b0 b1 bw hg hdv hx hy hp herr hbd hln hr hrx hno hq hR ho hk hpp hs hRc hRd hte hp1 hp2 hkb ow ow' mw mw' aw
  go_enter Tryd.func103, Tryd.ntmps103
  go_wp2_with fail
  have hWf : (w.alloc (.cells #[.int .i64 (a : Int), .int .i64 t0, .int .i64 t, .slice (some ⟨g, 0, none⟩) 12 12] 100)).alloc (.cells #[.slice none 0 0, .int .i64 0] 102) = W := hW.symm
  (try rw [hWf])
  (try rw [← hW])
  clear hW hWf
  refine wp_region_noPanic ?_
  have hb0 : Below W.heap.size W W.drew := (Below.refl _ _).drew
  refine wp_region_held_drew (S := fun w' => Below W.heap.size W w') (by kernel_rfl) hb0 (fun _ => ?_)
  refine wpAnyH_take (i := 0) (oi := ⟨some 11, _, _, _, _, _⟩) (v := .pointer (some ⟨w.heap.size, 3, none⟩)) rfl (by kernel_rfl) (by kernel_rfl) (by kernel_rfl) (fun _ _ _ h => h) (Or.inl ⟨by rfl, fun w' hS => by go_simp; (try (with_reducible rfl))⟩) hb0 ?_
  (try simp only [Act.put, List.setIfInBounds_toArray, List.set_cons_zero, List.set_cons_succ])
  refine wpAnyH_take (i := 1) (oi := ⟨some 12, _, _, _, _, _⟩) (v := .slice (some ⟨g, 0, none⟩) 12 12) rfl (by kernel_rfl) (by kernel_rfl) (by kernel_rfl) (fun _ _ _ h => h) (Or.inl ⟨by rfl, fun w' hS => by have e0 : w'.cell? ⟨w.heap.size, 3, none⟩ = some (.slice (some ⟨g, 0, none⟩) 12 12) := (RT.out.up hS).cell (i := 3) rfl; go_simp; (try (with_reducible rfl))⟩) hb0 ?_
  (try simp only [Act.put, List.setIfInBounds_toArray, List.set_cons_zero, List.set_cons_succ])
  refine wpAnyH_take (i := 2) (oi := ⟨some 13, _, _, _, _, _⟩) (v := .int .i64 (n : Int)) rfl (by kernel_rfl) (by kernel_rfl) (by kernel_rfl) (fun _ _ _ h => h) (Or.inl ⟨by rfl, fun w' hS => by go_simp; (try (with_reducible rfl))⟩) hb0 ?_
  (try simp only [Act.put, List.setIfInBounds_toArray, List.set_cons_zero, List.set_cons_succ])
  refine wpAnyH_take (i := 3) (oi := ⟨some 14, _, _, _, _, _⟩) (v := .int .i64 (q : Int)) rfl (by kernel_rfl) (by kernel_rfl) (by kernel_rfl) (fun _ _ _ h => h) (Or.inl ⟨by rfl, fun w' hS => by go_simp; (try (with_reducible rfl))⟩) hb0 ?_
  (try simp only [Act.put, List.setIfInBounds_toArray, List.set_cons_zero, List.set_cons_succ])
  refine wpAnyH_take (i := 4) (oi := ⟨some 15, _, _, _, _, _⟩) (v := .pointer (some ⟨g, q * 7, none⟩)) rfl (by kernel_rfl) (by kernel_rfl) (by kernel_rfl) (fun _ _ _ h => h) (Or.inl ⟨by rfl, fun w' hS => by go_simp; (try (with_reducible rfl))⟩) hb0 ?_
  (try simp only [Act.put, List.setIfInBounds_toArray, List.set_cons_zero, List.set_cons_succ])
  refine wpAnyH_take (i := 5) (oi := ⟨some 16, _, _, _, _, _⟩) (v := .agg (cellsR x).toArray) rfl (by kernel_rfl) (by kernel_rfl) (by kernel_rfl) (fun _ _ _ h => h) (yieldsIf_load_mid (by rfl) 24 _ rfl g (q * 7) rfl (cellsR x) _ (fun w' h => RowV.at7 (RG.out.up h) HX.out) Tryd.underlying24 rfl (szR x)) hb0 ?_
  (try simp only [Act.put, List.setIfInBounds_toArray, List.set_cons_zero, List.set_cons_succ])
  refine wpAnyH_take (i := 6) (oi := ⟨some 17, _, _, _, _, _⟩) (v := .pointer (some ⟨w.heap.size, 3, none⟩)) rfl (by kernel_rfl) (by kernel_rfl) (by kernel_rfl) (fun _ _ _ h => h) (Or.inl ⟨by rfl, fun w' hS => by go_simp; (try (with_reducible rfl))⟩) hb0 ?_
  (try simp only [Act.put, List.setIfInBounds_toArray, List.set_cons_zero, List.set_cons_succ])
  refine wpAnyH_take (i := 7) (oi := ⟨some 18, _, _, _, _, _⟩) (v := .slice (some ⟨g, 0, none⟩) 12 12) rfl (by kernel_rfl) (by kernel_rfl) (by kernel_rfl) (fun _ _ _ h => h) (Or.inl ⟨by rfl, fun w' hS => by have e0 : w'.cell? ⟨w.heap.size, 3, none⟩ = some (.slice (some ⟨g, 0, none⟩) 12 12) := (RT.out.up hS).cell (i := 3) rfl; go_simp; (try (with_reducible rfl))⟩) hb0 ?_
  (try simp only [Act.put, List.setIfInBounds_toArray, List.set_cons_zero, List.set_cons_succ])
  refine wpAnyH_take (i := 8) (oi := ⟨some 19, _, _, _, _, _⟩) (v := .pointer (some ⟨g, 9 * 7, none⟩)) rfl (by kernel_rfl) (by kernel_rfl) (by kernel_rfl) (fun _ _ _ h => h) (Or.inl ⟨by rfl, fun w' hS => by go_simp; (try (with_reducible rfl))⟩) hb0 ?_
  (try simp only [Act.put, List.setIfInBounds_toArray, List.set_cons_zero, List.set_cons_succ])
  refine wpAnyH_take (i := 9) (oi := ⟨some 20, _, _, _, _, _⟩) (v := .agg (cellsR y).toArray) rfl (by kernel_rfl) (by kernel_rfl) (by kernel_rfl) (fun _ _ _ h => h) (yieldsIf_load_mid (by rfl) 24 _ rfl g (9 * 7) rfl (cellsR y) _ (fun w' h => RowV.at7 (RG.out.up h) HY.out) Tryd.underlying24 rfl (szR y)) hb0 ?_
  (try simp only [Act.put, List.setIfInBounds_toArray, List.set_cons_zero, List.set_cons_succ])
  refine wpAnyH_ready (rs := [10, 14]) (by kernel_rfl) (by simp) (AllReadyH.cons (o := ⟨some 21, _, _, _, _, _⟩) rfl (fun K hK => ?_) (AllReadyH.cons (o := ⟨some 5, _, _, _, _, _⟩) rfl (fun K hK => ?_) AllReadyH.nil))
  · rw [if_pos (by rfl)]
    go_simp
    refine (HDV.out _).mono ?_
    rintro e u1 ⟨he, hc1⟩
    subst he
    have hb1 := hb0.trans (hc1.mono hb0.size)
    have hc1k := hc1
    clear hc1
    (try go_wp2_with fail)
    refine hK.out _ _ hb1 (fun _ => ?_)
    clear hK K
    (try simp only [Act.put, List.setIfInBounds_toArray, List.set_cons_zero, List.set_cons_succ])
    refine wpAnyH_take (i := 11) (oi := ⟨some 10, _, _, _, _, _⟩) (v := ?_) rfl (by kernel_rfl) (by kernel_rfl) (by kernel_rfl) (fun _ _ _ h => h) (Or.inl ⟨by rfl, ?_⟩) hb1 ?_
    rotate_left
    · (intro w hSw; go_simp; (try (with_reducible rfl)))
    (try simp only [Act.put, List.setIfInBounds_toArray, List.set_cons_zero, List.set_cons_succ])
    refine wpAnyH_take (i := 12) (oi := ⟨some 22, _, _, _, _, _⟩) (v := ?_) rfl (by kernel_rfl) (by kernel_rfl) (by kernel_rfl) (fun _ _ _ h => h) (Or.inl ⟨by rfl, ?_⟩) hb1 ?_
    rotate_left
    · (intro w hSw; go_simp; (try (with_reducible rfl)))
    (try simp only [Act.put, List.setIfInBounds_toArray, List.set_cons_zero, List.set_cons_succ])
    refine wpAnyH_take (i := 13) (oi := ⟨some 23, _, _, _, _, _⟩) (v := ?_) rfl (by kernel_rfl) (by kernel_rfl) (by kernel_rfl) (fun _ _ _ h => h) (Or.inl ⟨by rfl, ?_⟩) hb1 ?_
    rotate_left
    · (intro w hSw; go_simp; (try (with_reducible rfl)))
    (try simp only [Act.put, List.setIfInBounds_toArray, List.set_cons_zero, List.set_cons_succ])
    refine wpAnyH_ready (rs := [14]) (by kernel_rfl) (by simp) (AllReadyH.cons (o := ⟨some 5, _, _, _, _, _⟩) rfl (fun K hK => ?_) AllReadyH.nil)
    rw [if_pos (by rfl)]
    go_simp
    (try go_wp2_with fail)
    have hb2 := hb1.alloc hb1.size (.cells #[.int .i64 0, .int .i64 0, .int .i64 0, .int .i64 0, .int .i64 0, .int .i64 0, .int .i64 0] 24)
    have hg2 : RowV (u1.alloc (.cells #[.int .i64 0, .int .i64 0, .int .i64 0, .int .i64 0, .int .i64 0, .int .i64 0, .int .i64 0] 24)) u1.heap.size 24 (cellsR Rt.zero) := RowV.of_alloc u1 24 (cellsR Rt.zero)
    have hge : W.heap.size ≤ u1.heap.size := hb1.size
    refine hK.out _ _ hb2 (fun _ => ?_)
    clear hK K
    (try simp only [Act.put, List.setIfInBounds_toArray, List.set_cons_zero, List.set_cons_succ])
    refine wpAnyH_ready (rs := [15]) (by kernel_rfl) (by simp) (AllReadyH.cons (o := ⟨none, _, _, _, _, _⟩) rfl (fun K hK => ?_) AllReadyH.nil)
    rw [if_pos (by rfl)]
    have hgl := hg2
    have hth := hgl.there (o := 0) (n := 7) (by show 0 + 7 ≤ 7; omega)
    refine wp_store_mid 24 _ _ rfl u1.heap.size 0 (cellsR r).toArray rfl rfl hth (szR r) (oneR r) ?_
    have hbf := below_setCells (g := u1.heap.size) (cellsR r) 0 _ hb2 hge
    refine hK.out _ _ hbf (fun _ => ?_)
    clear hK K
    (try simp only [Act.put])
    refine wpAnyH_take (i := 16) (oi := ⟨some 6, _, _, _, _, _⟩) (v := ?_) rfl (by kernel_rfl) (by kernel_rfl) (by kernel_rfl) (fun _ _ _ h => h) (Or.inl ⟨by rfl, ?_⟩) hbf ?_
    rotate_left
    · (intro w hSw; go_simp; (try (with_reducible rfl)))
    (try simp only [Act.put, List.setIfInBounds_toArray, List.set_cons_zero, List.set_cons_succ])
    refine wpAnyH_done (by kernel_rfl) ?_ _
    refine NoPanic.normal ?_
    have hdd : RowV _ u1.heap.size 24 (cellsR r) := hgl.setCells (cellsR r) 0 _ _ (by show 0 + 7 ≤ 7; omega)
    clear hgl hth
    have qt := RT.out.up hbf
    have qr := RR.out.up hbf
    have qb := RB.out.trans (hbf.mono RB.out.size)
    have hgg : W.heap.size ≤ u1.heap.size := hge
    clear hbf hge RT RR RB RG
    generalize u1.heap.size = gR at *
    have QD := Lib.hid hdd
    have QT := Lib.hid qt
    have QR := Lib.hid qr
    have QB := Lib.hid qb
    clear hdd qt qr qb
    clear hb0 hb1 hb2 hc1k hg2
    generalize ((u1.alloc (.cells #[.int .i64 0, .int .i64 0, .int .i64 0, .int .i64 0, .int .i64 0, .int .i64 0, .int .i64 0] 24)).setCells gR 0 (cellsR r)) = WF at *
    have c0 := QD.out.cell (i := 0) rfl
    have c6 := QD.out.cell (i := 6) rfl
    have z0 := RowV.z (i := 0) QD.out
    have q1 := QD.out.setCell 0 (.int .i64 s)
    rw [HRC.out] at q1
    have hgne : gR ≠ w.heap.size ∧ gR ≠ w.heap.size + 1 := by omega
    have q2 := RowV.far (b := gR) (i := 0) (x := .int .i64 s) QT.out (by omega)
    have q3 := RowV.far (b := gR) (i := 0) (x := .int .i64 s) QR.out (by omega)
    have q4 := QB.out.setCell (p := ⟨gR, 0, none⟩) (by show w.heap.size ≤ gR; omega) (.int .i64 s)
    have D1 := Lib.hid q1
    have D2 := Lib.hid q2
    have D3 := Lib.hid q3
    have D4 := Lib.hid q4
    clear q1 q2 q3 q4 QD QT QR QB
    go_wp2_with ((show wpList _ _ _ (⟨_, .load _ _, _, _, _, _⟩ :: _) _ _); refine wpList_load_mid rfl 24 _ rfl gR 0 rfl (cellsR R) _ D1.out.all Tryd.underlying24 rfl (szR R) ?_)
    refine (HTE.out _ (HPR.out.below D4.out)).mono ?_
    rintro e u4 hpost
    rcases hpost with ⟨-, v, he, hrow, hb4⟩ | ⟨hne, -⟩
    case' inr => exact absurd HER.out hne
    subst he
    obtain ⟨tA, tcap, rfl, htc, htm, htf⟩ := hrow.form
    have E2 := Lib.hid (D2.out.up hb4)
    have E3 := Lib.hid (D3.out.up hb4)
    have E4 := Lib.hid (D4.out.trans (hb4.mono D4.out.size))
    have HTR := Lib.hid hrow
    have ka := E2.out.cell (i := 0) rfl
    clear hrow hb4 D1 D2 D3 D4 HTE htf c0 c6 z0
    go_wp2_with fail
    refine (HWH.out _).mono ?_
    rintro e u5 ⟨⟨V, he, wv, rfl, hroww⟩, hb5⟩
    subst he
    obtain ⟨wA, wcap, rfl, hwc, hwm, hwf⟩ := hroww.form
    have hg := heap_alloc_new u5 (.cells #[.slice wA 1 wcap, .int .i64 1, .slice tA (nz R.v.zl).length tcap, .int .i64 R.d] 102)
    have hbu := belA u5 (.cells #[.slice wA 1 wcap, .int .i64 1, .slice tA (nz R.v.zl).length tcap, .int .i64 R.d] 102)
    have HM1 := Lib.hid (hroww.up hbu).tmc
    have HM2 := Lib.hid ((HTR.out.up hb5).up hbu).tmc
    have E6 := Lib.hid ((E3.out.up hb5).up hbu)
    have E7 := Lib.hid ((E4.out.trans (hb5.mono E4.out.size)).trans (hbu.mono (E4.out.trans (hb5.mono E4.out.size)).size))
    have hsz5 := (E4.out.trans (hb5.mono E4.out.size)).size
    have G0 := Lib.hid (And.intro (Go.Joins.cell_of_block hg 0) (And.intro (Go.Joins.cell_of_block hg 1) (And.intro (Go.Joins.cell_of_block hg 2) (Go.Joins.cell_of_block hg 3))))
    have hlt5 : w.heap.size + 1 < u5.heap.size := Nat.lt_of_lt_of_le E3.out.lt hb5.size
    clear hb5 hroww hwf hg hbu E2 E3 E4 HTR ka
    go_wp2_with fail
    refine (product2 u5.heap.size 2 wA wcap [(a, 1)] 1 tA tcap (nz R.v.zl) R.d _ (by simp) G0.out.1 G0.out.2.1 G0.out.2.2.1 G0.out.2.2.2 HM1.out HM2.out (by simp) HLN.out (fun x hx => by rw [List.mem_singleton] at hx; subst hx; simp only; omega) HBD.out (by omega) (by omega) HRD.out.1 HRD.out.2).mono ?_
    rintro e u6 ⟨⟨V, he, zv, rfl, hrowz⟩, hb6⟩
    subst he
    obtain ⟨zA, zcap, rfl, hzc, hzm, hzf⟩ := hrowz.form
    have r3 := E6.out.up hb6
    have c20 := RowV.c0 r3
    have c21 := RowV.c1 r3
    have z20 := RowV.z (i := 0) r3
    have z21 := RowV.z (i := 1) r3
    have HZ := Lib.hid hrowz
    have E8 := Lib.hid (E7.out.trans (hb6.mono E7.out.size))
    clear hrowz r3 hb6 E6 E7 G0 HM1 HM2
    go_wp2
    refine bodyPost_ret (v := .agg #[.slice zA (scL R.d [(a, 1)] ++ scL 1 (nz R.v.zl)).length zcap, .int .i64 (1 * R.d)]) (results_one rfl rfl (load_root2 ?_ ?_)) rfl ⟨⟨_, rfl, _, rfl, RowT.low (B := (u5.alloc (.cells #[.slice wA 1 wcap, .int .i64 1, .slice tA (nz R.v.zl).length tcap, .int .i64 R.d] 102)).heap.size) (HZ.out.keep fun k hk => ?_) ?_⟩, (E8.out.setCell (by show w.heap.size ≤ w.heap.size + 1; omega) _).setCell (by show w.heap.size ≤ w.heap.size + 1; omega) _⟩
    · rw [World.cell?_setCell_other _ _ _ _ (by simp), World.cell?_setCell_same _ _ _ c20]
      simp only [List.length_append]
    · (try rw [Int.one_mul])
      exact World.cell?_setCell_same _ _ _ ((World.cell?_setCell_other _ _ _ _ (by simp)).trans c21)
    · have hk2 : k ≠ w.heap.size + 1 := by
        rcases hzf with ⟨rfl, -, -⟩ | ⟨g2, rfl, hg2, -, -⟩
        · cases hk
        · have e2 : g2 = k := Option.some.inj hk
          rw [World.size_alloc] at hg2
          omega
      exact (setCell_heap hk2).trans (setCell_heap hk2)
    · rw [World.size_alloc]
      omega
  · rw [if_pos (by rfl)]
    go_simp
    (try go_wp2_with fail)
    have hb1 := hb0.alloc hb0.size (.cells #[.int .i64 0, .int .i64 0, .int .i64 0, .int .i64 0, .int .i64 0, .int .i64 0, .int .i64 0] 24)
    have hg1 : RowV (W.drew.alloc (.cells #[.int .i64 0, .int .i64 0, .int .i64 0, .int .i64 0, .int .i64 0, .int .i64 0, .int .i64 0] 24)) W.heap.size 24 (cellsR Rt.zero) := RowV.of_alloc W.drew 24 (cellsR Rt.zero)
    have hge : W.heap.size ≤ W.heap.size := hb0.size
    refine hK.out _ _ hb1 (fun _ => ?_)
    clear hK K
    (try simp only [Act.put, List.setIfInBounds_toArray, List.set_cons_zero, List.set_cons_succ])
    refine wpAnyH_ready (rs := [10]) (by kernel_rfl) (by simp) (AllReadyH.cons (o := ⟨some 21, _, _, _, _, _⟩) rfl (fun K hK => ?_) AllReadyH.nil)
    rw [if_pos (by rfl)]
    go_simp
    refine (HDV.out _).mono ?_
    rintro e u2 ⟨he, hc2⟩
    subst he
    have hb2 := hb1.trans (hc2.mono hb1.size)
    have hc2k := hc2
    clear hc2
    (try go_wp2_with fail)
    refine hK.out _ _ hb2 (fun _ => ?_)
    clear hK K
    (try simp only [Act.put, List.setIfInBounds_toArray, List.set_cons_zero, List.set_cons_succ])
    refine wpAnyH_take (i := 11) (oi := ⟨some 10, _, _, _, _, _⟩) (v := ?_) rfl (by kernel_rfl) (by kernel_rfl) (by kernel_rfl) (fun _ _ _ h => h) (Or.inl ⟨by rfl, ?_⟩) hb2 ?_
    rotate_left
    · (intro w hSw; go_simp; (try (with_reducible rfl)))
    (try simp only [Act.put, List.setIfInBounds_toArray, List.set_cons_zero, List.set_cons_succ])
    refine wpAnyH_take (i := 12) (oi := ⟨some 22, _, _, _, _, _⟩) (v := ?_) rfl (by kernel_rfl) (by kernel_rfl) (by kernel_rfl) (fun _ _ _ h => h) (Or.inl ⟨by rfl, ?_⟩) hb2 ?_
    rotate_left
    · (intro w hSw; go_simp; (try (with_reducible rfl)))
    (try simp only [Act.put, List.setIfInBounds_toArray, List.set_cons_zero, List.set_cons_succ])
    refine wpAnyH_take (i := 13) (oi := ⟨some 23, _, _, _, _, _⟩) (v := ?_) rfl (by kernel_rfl) (by kernel_rfl) (by kernel_rfl) (fun _ _ _ h => h) (Or.inl ⟨by rfl, ?_⟩) hb2 ?_
    rotate_left
    · (intro w hSw; go_simp; (try (with_reducible rfl)))
    (try simp only [Act.put, List.setIfInBounds_toArray, List.set_cons_zero, List.set_cons_succ])
    refine wpAnyH_ready (rs := [15]) (by kernel_rfl) (by simp) (AllReadyH.cons (o := ⟨none, _, _, _, _, _⟩) rfl (fun K hK => ?_) AllReadyH.nil)
    rw [if_pos (by rfl)]
    have hgl := hg1.up hc2k
    have hth := hgl.there (o := 0) (n := 7) (by show 0 + 7 ≤ 7; omega)
    refine wp_store_mid 24 _ _ rfl W.heap.size 0 (cellsR r).toArray rfl rfl hth (szR r) (oneR r) ?_
    have hbf := below_setCells (g := W.heap.size) (cellsR r) 0 _ hb2 hge
    refine hK.out _ _ hbf (fun _ => ?_)
    clear hK K
    (try simp only [Act.put])
    refine wpAnyH_take (i := 16) (oi := ⟨some 6, _, _, _, _, _⟩) (v := ?_) rfl (by kernel_rfl) (by kernel_rfl) (by kernel_rfl) (fun _ _ _ h => h) (Or.inl ⟨by rfl, ?_⟩) hbf ?_
    rotate_left
    · (intro w hSw; go_simp; (try (with_reducible rfl)))
    (try simp only [Act.put, List.setIfInBounds_toArray, List.set_cons_zero, List.set_cons_succ])
    refine wpAnyH_done (by kernel_rfl) ?_ _
    refine NoPanic.normal ?_
    have hdd : RowV _ W.heap.size 24 (cellsR r) := hgl.setCells (cellsR r) 0 _ _ (by show 0 + 7 ≤ 7; omega)
    clear hgl hth
    have qt := RT.out.up hbf
    have qr := RR.out.up hbf
    have qb := RB.out.trans (hbf.mono RB.out.size)
    have hgg : W.heap.size ≤ W.heap.size := hge
    clear hbf hge RT RR RB RG
    generalize W.heap.size = gR at *
    have QD := Lib.hid hdd
    have QT := Lib.hid qt
    have QR := Lib.hid qr
    have QB := Lib.hid qb
    clear hdd qt qr qb
    clear hb0 hb1 hb2 hc2k hg1
    generalize (u2.setCells gR 0 (cellsR r)) = WF at *
    have c0 := QD.out.cell (i := 0) rfl
    have c6 := QD.out.cell (i := 6) rfl
    have z0 := RowV.z (i := 0) QD.out
    have q1 := QD.out.setCell 0 (.int .i64 s)
    rw [HRC.out] at q1
    have hgne : gR ≠ w.heap.size ∧ gR ≠ w.heap.size + 1 := by omega
    have q2 := RowV.far (b := gR) (i := 0) (x := .int .i64 s) QT.out (by omega)
    have q3 := RowV.far (b := gR) (i := 0) (x := .int .i64 s) QR.out (by omega)
    have q4 := QB.out.setCell (p := ⟨gR, 0, none⟩) (by show w.heap.size ≤ gR; omega) (.int .i64 s)
    have D1 := Lib.hid q1
    have D2 := Lib.hid q2
    have D3 := Lib.hid q3
    have D4 := Lib.hid q4
    clear q1 q2 q3 q4 QD QT QR QB
    go_wp2_with ((show wpList _ _ _ (⟨_, .load _ _, _, _, _, _⟩ :: _) _ _); refine wpList_load_mid rfl 24 _ rfl gR 0 rfl (cellsR R) _ D1.out.all Tryd.underlying24 rfl (szR R) ?_)
    refine (HTE.out _ (HPR.out.below D4.out)).mono ?_
    rintro e u4 hpost
    rcases hpost with ⟨-, v, he, hrow, hb4⟩ | ⟨hne, -⟩
    case' inr => exact absurd HER.out hne
    subst he
    obtain ⟨tA, tcap, rfl, htc, htm, htf⟩ := hrow.form
    have E2 := Lib.hid (D2.out.up hb4)
    have E3 := Lib.hid (D3.out.up hb4)
    have E4 := Lib.hid (D4.out.trans (hb4.mono D4.out.size))
    have HTR := Lib.hid hrow
    have ka := E2.out.cell (i := 0) rfl
    clear hrow hb4 D1 D2 D3 D4 HTE htf c0 c6 z0
    go_wp2_with fail
    refine (HWH.out _).mono ?_
    rintro e u5 ⟨⟨V, he, wv, rfl, hroww⟩, hb5⟩
    subst he
    obtain ⟨wA, wcap, rfl, hwc, hwm, hwf⟩ := hroww.form
    have hg := heap_alloc_new u5 (.cells #[.slice wA 1 wcap, .int .i64 1, .slice tA (nz R.v.zl).length tcap, .int .i64 R.d] 102)
    have hbu := belA u5 (.cells #[.slice wA 1 wcap, .int .i64 1, .slice tA (nz R.v.zl).length tcap, .int .i64 R.d] 102)
    have HM1 := Lib.hid (hroww.up hbu).tmc
    have HM2 := Lib.hid ((HTR.out.up hb5).up hbu).tmc
    have E6 := Lib.hid ((E3.out.up hb5).up hbu)
    have E7 := Lib.hid ((E4.out.trans (hb5.mono E4.out.size)).trans (hbu.mono (E4.out.trans (hb5.mono E4.out.size)).size))
    have hsz5 := (E4.out.trans (hb5.mono E4.out.size)).size
    have G0 := Lib.hid (And.intro (Go.Joins.cell_of_block hg 0) (And.intro (Go.Joins.cell_of_block hg 1) (And.intro (Go.Joins.cell_of_block hg 2) (Go.Joins.cell_of_block hg 3))))
    have hlt5 : w.heap.size + 1 < u5.heap.size := Nat.lt_of_lt_of_le E3.out.lt hb5.size
    clear hb5 hroww hwf hg hbu E2 E3 E4 HTR ka
    go_wp2_with fail
    refine (product2 u5.heap.size 2 wA wcap [(a, 1)] 1 tA tcap (nz R.v.zl) R.d _ (by simp) G0.out.1 G0.out.2.1 G0.out.2.2.1 G0.out.2.2.2 HM1.out HM2.out (by simp) HLN.out (fun x hx => by rw [List.mem_singleton] at hx; subst hx; simp only; omega) HBD.out (by omega) (by omega) HRD.out.1 HRD.out.2).mono ?_
    rintro e u6 ⟨⟨V, he, zv, rfl, hrowz⟩, hb6⟩
    subst he
    obtain ⟨zA, zcap, rfl, hzc, hzm, hzf⟩ := hrowz.form
    have r3 := E6.out.up hb6
    have c20 := RowV.c0 r3
    have c21 := RowV.c1 r3
    have z20 := RowV.z (i := 0) r3
    have z21 := RowV.z (i := 1) r3
    have HZ := Lib.hid hrowz
    have E8 := Lib.hid (E7.out.trans (hb6.mono E7.out.size))
    clear hrowz r3 hb6 E6 E7 G0 HM1 HM2
    go_wp2
    refine bodyPost_ret (v := .agg #[.slice zA (scL R.d [(a, 1)] ++ scL 1 (nz R.v.zl)).length zcap, .int .i64 (1 * R.d)]) (results_one rfl rfl (load_root2 ?_ ?_)) rfl ⟨⟨_, rfl, _, rfl, RowT.low (B := (u5.alloc (.cells #[.slice wA 1 wcap, .int .i64 1, .slice tA (nz R.v.zl).length tcap, .int .i64 R.d] 102)).heap.size) (HZ.out.keep fun k hk => ?_) ?_⟩, (E8.out.setCell (by show w.heap.size ≤ w.heap.size + 1; omega) _).setCell (by show w.heap.size ≤ w.heap.size + 1; omega) _⟩
    · rw [World.cell?_setCell_other _ _ _ _ (by simp), World.cell?_setCell_same _ _ _ c20]
      simp only [List.length_append]
    · (try rw [Int.one_mul])
      exact World.cell?_setCell_same _ _ _ ((World.cell?_setCell_other _ _ _ _ (by simp)).trans c21)
    · have hk2 : k ≠ w.heap.size + 1 := by
        rcases hzf with ⟨rfl, -, -⟩ | ⟨g2, rfl, hg2, -, -⟩
        · cases hk
        · have e2 : g2 = k := Option.some.inj hk
          rw [World.size_alloc] at hg2
          omega
      exact (setCell_heap hk2).trans (setCell_heap hk2)
    · rw [World.size_alloc]
      omega
end Go.Proofs.YtkoghdgfllichaaDoor.Pc
