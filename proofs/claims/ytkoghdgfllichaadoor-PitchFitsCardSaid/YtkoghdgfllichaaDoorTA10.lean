import Derived.Test.YtkoghdgfllichaaDoorTAB
namespace Go.Proofs.YtkoghdgfllichaaDoor.Tp
open Go.RowKit

def psN (T : Tm) (i : Nat) : Int × Int := T.ps.getD i (0, 1)
def fivR (T : Tm) (i : Nat) : Rt := (bothW (ofW 3 2).1 (rpowW (cmW T) (psN T i).1 (psN T i).2).1 (-1)).1
def lfR (T : Tm) (wn : Nat) : Nat → Rt
  | 0 => (ofW 128 1).1
  | n + 1 => if n = wn then lfR T wn n else (bothW (lfR T wn n) (fivR T n) (-1)).1
def rowR (T : Tm) (wn n : Nat) : List Rt := (List.range 12).map fun i => if i < n ∧ i ≠ wn then fivR T i else Rt.zero
theorem rowR_len (T : Tm) (wn n : Nat) : (rowR T wn n).length = 12 := by simp [rowR]
theorem rowR_set {T : Tm} {wn n : Nat} (h : n ≠ wn) (hn : n < 12) : (rowR T wn n).set n (fivR T n) = rowR T wn (n + 1) := by
  apply List.ext_getElem?
  intro j
  by_cases hj : j < 12
  · by_cases e : j = n
    · subst e
      rw [List.getElem?_set_self (by rw [rowR_len]; omega)]
      simp [rowR, hj, h]
    · rw [List.getElem?_set_ne (by omega)]
      simp only [rowR, List.getElem?_map, List.getElem?_range hj, Option.map_some, Option.some.injEq]
      have : (j < n ∧ j ≠ wn) ↔ (j < n + 1 ∧ j ≠ wn) := by omega
      simp [this]
  · rw [List.getElem?_eq_none (by simp [rowR]; omega), List.getElem?_eq_none (by simp [rowR]; omega)]
theorem rowR_skip {T : Tm} {wn : Nat} : rowR T wn wn = rowR T wn (wn + 1) := by
  unfold rowR
  apply List.map_congr_left
  intro j _
  have : (j < wn ∧ j ≠ wn) ↔ (j < wn + 1 ∧ j ≠ wn) := by omega
  simp [this]
theorem rowR_at {T : Tm} {wn n i : Nat} (h : i < n) (hw : i ≠ wn) (hi : i < 12) : (rowR T wn n)[i]? = some (fivR T i) := by
  simp [rowR, hi, h, hw]
def fifR (T : Tm) (wn : Nat) : List Rt := (rowR T wn 12).set wn (lfR T wn 12)
theorem oneR (r : Rt) : (cellsR r).toArray.all (·.oneCell') = true := by simp [cellsR, Value.oneCell']
theorem one65 (rs : List Rt) : (fl7 rs).toArray.all (·.oneCell') = true := all_oneCell_toArray fun v hv => by
  obtain ⟨r, _, hr⟩ := List.mem_flatMap.1 hv
  simp only [cellsR, List.mem_cons, List.not_mem_nil, or_false] at hr
  rcases hr with h | h | h | h | h | h | h <;> subst h <;> rfl
theorem wp_via {P : Program} {c : Code} {Q : Exit → Act → World → Prop} {a : Act} {w : World} (F : Act) (S : World → Prop) (h1 : c.wp P (fun e a' w' => e = .normal ∧ a' = F ∧ S w') a w) (h2 : ∀ w', S w' → Q .normal F w') : c.wp P Q a w :=
  Code.wp_mono (fun e a' w' h => by obtain ⟨rfl, rfl, h⟩ := h; exact h2 w' h) h1
theorem results_cell {P : Program} {fn : Func} {tmps : Array Value} {w : World} {a : Nat} {t : TypeId} {A : Addr} {v : Value} (hf : fn.results = #[.cell a t]) (ha : tmps.getD a undef = .pointer (some A)) (hl : (loadVar t A).run P w = .ok v w) : (results fn tmps).run P w = .ok v w := by
  unfold results
  rw [hf]
  have ha2 : tmps[a]?.getD undef = .pointer (some A) := by rw [← ha, Array.getD_eq_getD_getElem?]
  simp [ha2, asAddr, Sem.run_bind, hl]
def zero12 : List Rt := List.replicate 12 Rt.zero
theorem zero65 (w : World) : (zeroValue 90).run Tryd.prog w = .ok (.agg (fl7 zero12).toArray) w := (zero_of_info (n := 84) (by kernel_rfl)).1 w
def FfRel (w : World) (T : Tm) (wn gl : Nat) (iv : Value) (wr : World) : Prop :=
  ∃ i : Nat, i ≤ 12 ∧ iv = .int .i64 (i : Int) ∧ RowV wr w.heap.size 38 (tmV T) ∧ RowV wr (w.heap.size + 1) 90 (fl7 zero12) ∧ RowV wr (w.heap.size + 1 + 1) 90 (fl7 (rowR T wn i)) ∧ RowV wr gl 24 (cellsR (lfR T wn i)) ∧ Below w.heap.size w wr
set_option maxRecDepth 100000 in
set_option maxHeartbeats 1000000 in
theorem fifthsOf_any (T : Tm) (wn : Nat) (w : World) (hp : PrL w) (hl : T.ps.length = 12) (hwn : T.wo = (wn : Int)) (hw : wn < 12) : Calls Tryd.prog 51 #[.agg (tmV T).toArray] w fun e w' => e = .returned (.agg (fl7 (fifR T wn)).toArray) ∧ Below w.heap.size w w' := by
  have hz := zero65
  have HR0 := Lib.hid (((RowV.of_alloc w 38 (tmV T)).alloc (.cells (fl7 zero12).toArray 90)).alloc (.cells (fl7 zero12).toArray 90))
  have hr1 : RowV ((w.alloc (.cells (tmV T).toArray 38)).alloc (.cells (fl7 zero12).toArray 90)) (w.heap.size + 1) 90 (fl7 zero12) := by
    have h := RowV.of_alloc (w.alloc (.cells (tmV T).toArray 38)) 90 (fl7 zero12)
    simp only [World.size_alloc] at h
    exact h
  have hr2 : RowV (((w.alloc (.cells (tmV T).toArray 38)).alloc (.cells (fl7 zero12).toArray 90)).alloc (.cells (fl7 zero12).toArray 90)) (w.heap.size + 1 + 1) 90 (fl7 zero12) := by
    have h := RowV.of_alloc ((w.alloc (.cells (tmV T).toArray 38)).alloc (.cells (fl7 zero12).toArray 90)) 90 (fl7 zero12)
    simp only [World.size_alloc] at h
    exact h
  have HR1 := Lib.hid (hr1.alloc (.cells (fl7 zero12).toArray 90))
  have HR2 := Lib.hid hr2
  have HB := Lib.hid (((belB w (.cells (tmV T).toArray 38)).alloc (by simp) (.cells (fl7 zero12).toArray 90)).alloc (by simp; omega) (.cells (fl7 zero12).toArray 90))
  have hwo : ∀ W, RowV W w.heap.size 38 (tmV T) → W.cell? ⟨w.heap.size, 2, none⟩ = some (.int .i64 (wn : Int)) := fun W h => h.cell (i := 2) (by rw [← hwn]; rfl)
  have HWO := Lib.hid hwo
  have HI := Lib.hid (sz2 hl)
  have HI2 := Lib.hid (szT hl)
  have HP2 := Lib.hid (fun W (h : RowV W w.heap.size 38 (tmV T)) => h.parts)
  have HX := Lib.hid (fun i p (h : T.ps[i]? = some p) W => idx2 hl h W)
  have HP := Lib.hid hp
  have HL := Lib.hid hl
  have HRA := Lib.hid (fun W (h : PrL W) => ratio_any 128 1 W h)
  have hlf0 : (ofW 128 1).1 = lfR T wn 0 := rfl
  have hz12 : zero12 = rowR T wn 0 := rfl
  rw [hlf0] at HRA
  have HZ12 := Lib.hid hz12
  clear hr1 hr2 hwo hp hl hwn hlf0 hz12
  go_enter Tryd.func51, Tryd.ntmps51
  go_wp2_with fail
  refine (HRA.out _ (HP.out.below (HB.out.mono (Nat.le_refl _)))).mono ?_
  rintro e w1 ⟨he, hb1⟩
  subst he
  have hr0 := HR0.out.up (hb1.mono (by simp))
  have hr1 := HR1.out.up (hb1.mono (by simp))
  have hr2 := HR2.out.up (hb1.mono (by simp))
  have hb := HB.out.trans (hb1.mono (by simp; omega))
  have hz1 := HR2.out.lt
  have hsz := hb1.size
  obtain ⟨wl, hwl⟩ : ∃ wl, wl = (w1.alloc (.cells #[.int .i64 0, .int .i64 0, .int .i64 0, .int .i64 0, .int .i64 0, .int .i64 0, .int .i64 0] 24)).setCells w1.heap.size 0 (cellsR (lfR T wn 0)).toArray.toList := ⟨_, rfl⟩
  have hth : (w1.alloc (.cells #[.int .i64 0, .int .i64 0, .int .i64 0, .int .i64 0, .int .i64 0, .int .i64 0, .int .i64 0] 24)).there w1.heap.size 0 (cellsR (lfR T wn 0)).toArray.size := (RowV.of_alloc w1 24 (cellsR Rt.zero)).there (by show 0 + 7 ≤ 7; omega)
  have hrl : RowV wl w1.heap.size 24 (cellsR (lfR T wn 0)) := by
    have h := (RowV.of_alloc w1 24 (cellsR Rt.zero)).setCells (cellsR (lfR T wn 0)) 0 _ _ (by show 0 + 7 ≤ 7; omega)
    rw [hwl]
    exact h
  have hbl : Below w.heap.size w wl := by
    rw [hwl]
    exact below_setCells _ _ _ (hb.alloc hb.size _) hb.size
  have hsz1 : w.heap.size + 1 + 1 < w1.heap.size := Nat.lt_of_lt_of_le hz1 hsz
  have hl0 : RowV wl w.heap.size 38 (tmV T) := by rw [hwl]; exact RowV.otherCells (Nat.ne_of_lt (by omega)) _ _ _ (hr0.alloc _)
  have hl1 : RowV wl (w.heap.size + 1) 90 (fl7 zero12) := by rw [hwl]; exact RowV.otherCells (Nat.ne_of_lt (by omega)) _ _ _ (hr1.alloc _)
  have hl2 : RowV wl (w.heap.size + 1 + 1) 90 (fl7 zero12) := by rw [hwl]; exact RowV.otherCells (Nat.ne_of_lt (by omega)) _ _ _ (hr2.alloc _)
  have hszl : w1.heap.size < wl.heap.size := hrl.lt
  have HTH := Lib.hid hth
  have HRL := Lib.hid hrl
  have HL0 := Lib.hid hl0
  have HL1 := Lib.hid hl1
  have HL2 := Lib.hid hl2
  have HBL := Lib.hid hbl
  have HWL := Lib.hid hwl
  have HSR := Lib.hid (szR (lfR T wn 0))
  clear hth hrl hl0 hl1 hl2 hbl hwl hr0 hr1 hr2 hb hb1 hz1 hsz HR0 HR1 HR2 HB
  go_wp2_with (first | (refine wpList_store_mid rfl 24 _ _ rfl w1.heap.size 0 (cellsR (lfR T wn 0)).toArray rfl rfl HTH.out HSR.out (oneR _) ?_; rw [← HWL.out]) | (refine wpList_load_mid rfl 36 _ rfl w.heap.size 3 rfl (fl2 T.ps) _ (HP2.out _ HL0.out) Tryd.underlying36 rfl HI.out ?_))
  obtain ⟨gl, hgl⟩ : ∃ gl, gl = w1.heap.size := ⟨_, rfl⟩
  rw [HZ12.out] at HL2
  rw [← hgl] at HRL hsz1 hszl
  rw [← hgl]
  have HLW := Lib.hid hszl
  clear hgl HTH HWL HSR hszl HRA
  go_loopw [10] (fun iv wr => FfRel w T wn gl iv wr) (fun iv _ => 12 - (intOf iv).toNat)
  case atStart => exact ⟨0, Nat.zero_le _, rfl, HL0.out, HL1.out, HL2.out, HRL.out, HBL.out⟩
  case round =>
    clear HL0 HL1 HL2 HRL HBL HLW
    obtain ⟨i, hi, rfl, h0, h1, h2, h3, hb⟩ := hrel
    have H0 := Lib.hid h0
    have H1 := Lib.hid h1
    have H2 := Lib.hid h2
    have H3 := Lib.hid h3
    have HB := Lib.hid hb
    clear h0 h1 h2 h3 hb
    by_cases hil : i < 12
    · obtain ⟨⟨n, d⟩, hn⟩ : ∃ p, T.ps[i]? = some p := ⟨T.ps[i]'(by have := HL.out; omega), List.getElem?_eq_getElem _⟩
      have hpn : psN T i = (n, d) := by unfold psN; rw [List.getD_eq_getElem?_getD, hn]; rfl
      have hix := fun W => HX.out i (n, d) hn W
      have hilI : (i : Int) < 12 := by omega
      have c2 := HWO.out _ (H0.out.alloc (.cells #[.int .i64 n, .int .i64 d] 35))
      have HA0 := Lib.hid (H0.out.alloc (.cells #[.int .i64 n, .int .i64 d] 35))
      have HA1 := Lib.hid (H1.out.alloc (.cells #[.int .i64 n, .int .i64 d] 35))
      have HA2 := Lib.hid (H2.out.alloc (.cells #[.int .i64 n, .int .i64 d] 35))
      have HA3 := Lib.hid (H3.out.alloc (.cells #[.int .i64 n, .int .i64 d] 35))
      have HAB := Lib.hid (HB.out.alloc HB.out.size (.cells #[.int .i64 n, .int .i64 d] 35))
      have HAP := Lib.hid (RowV.of_alloc wr 35 [.int .i64 n, .int .i64 d])
      have hszr := HB.out.size
      have hg3 := H3.out.lt
      have HPN := Lib.hid hpn
      clear hn hpn
      simp only at hix
      by_cases hiw : i = wn
      · subst hiw
        go_wp2
        refine ⟨⟨i + 1, by omega, by go_num, HA0.out, HA1.out, by rw [← rowR_skip]; exact HA2.out, by rw [show lfR T i (i + 1) = lfR T i i from if_pos rfl]; exact HA3.out, HAB.out⟩, by simp [intOf]; omega⟩
      · have hiwI : ¬ (i : Int) = (wn : Int) := by omega
        go_wp2_with fail
        obtain ⟨W, hW⟩ : ∃ W, W = wr.alloc (.cells #[.int .i64 n, .int .i64 d] 35) := ⟨_, rfl⟩
        have hszW : W.heap.size = wr.heap.size + 1 := by rw [hW, World.size_alloc]
        have hap := HAP.out
        have ha0 := HA0.out
        have ha1 := HA1.out
        have ha2 := HA2.out
        have ha3 := HA3.out
        have hab := HAB.out
        rw [← hW] at hap ha0 ha1 ha2 ha3 hab ⊢
        obtain ⟨pb, hpb⟩ : ∃ pb, pb = wr.heap.size := ⟨_, rfl⟩
        rw [← hpb] at hap hszr hg3 hszW ⊢
        have hwp := hap.lt
        have h2lt := ha2.lt
        have hs1 : ∀ w', (Below W.heap.size W w' ∨ ∃ W1, Below W.heap.size W W1 ∧ w' = W1.setCells (w.heap.size + 1 + 1) (i * 7) (cellsR (bothW (ofW 3 2).1 (rpowW (cmW T) n d).1 (-1)).1).toArray.toList) → w'.rangeAt w.heap.size 0 (tmV T) := by
          rintro w' (h | ⟨W1, h, rfl⟩)
          · exact (ha0.up h).all
          · exact (RowV.otherCells (Nat.ne_of_lt (by omega)) _ _ _ (ha0.up h)).all
        have hs2 : ∀ w', (Below W.heap.size W w' ∨ ∃ W1, Below W.heap.size W W1 ∧ w' = W1.setCells (w.heap.size + 1 + 1) (i * 7) (cellsR (bothW (ofW 3 2).1 (rpowW (cmW T) n d).1 (-1)).1).toArray.toList) → w'.rangeAt pb 0 [.int .i64 n, .int .i64 d] := by
          rintro w' (h | ⟨W1, h, rfl⟩)
          · exact (hap.up h).all
          · exact (RowV.otherCells (Nat.ne_of_gt (by omega)) _ _ _ (hap.up h)).all
        have HPW := Lib.hid (HP.out.below hab)
        have HS1 := Lib.hid hs1
        have HS2 := Lib.hid hs2
        have HS3 : Hid ((Tryd.prog.info? 35).map (·.size) = some 2) := Lib.hid (by kernel_rfl)
        clear HA0 HA1 HA2 HA3 HAB HAP H0 H1 H2 H3 HB hs1 hs2 c2 hW
        have HAP := Lib.hid hap
        have HA0 := Lib.hid ha0
        have HA1 := Lib.hid ha1
        have HA2 := Lib.hid ha2
        have HA3 := Lib.hid ha3
        have HAB := Lib.hid hab
        clear hap ha0 ha1 ha2 ha3 hab hix
        apply wp_via _ (fun w' => ∃ W1, Below W.heap.size W W1 ∧ w' = W1.setCells (w.heap.size + 1 + 1) (i * 7) (cellsR (bothW (ofW 3 2).1 (rpowW (cmW T) n d).1 (-1)).1).toArray.toList)
        case h1 =>
          refine wp_region_noPanic ?_
          have hb0 : Below W.heap.size W W.drew := (Below.refl _ _).drew
          refine wp_region_held_drew (S := fun w' => Below W.heap.size W w' ∨ ∃ W1, Below W.heap.size W W1 ∧ w' = W1.setCells (w.heap.size + 1 + 1) (i * 7) (cellsR (bothW (ofW 3 2).1 (rpowW (cmW T) n d).1 (-1)).1).toArray.toList) (by kernel_rfl) (.inl hb0) (fun _ => ?_)
          refine wpAnyH_take (i := 0) (oi := ⟨some 18, _, _, _, _, _⟩) (v := ?_) rfl (by kernel_rfl) (by kernel_rfl) (by kernel_rfl) (fun _ _ _ h => h) (Or.inl ⟨by rfl, ?_⟩) (.inl hb0) ?_
          rotate_left
          · (intro w hSw; go_simp; (try (with_reducible rfl)))
          (try simp only [Act.put, List.setIfInBounds_toArray, List.set_cons_zero, List.set_cons_succ])
          refine wpAnyH_take (i := 2) (oi := ⟨some 20, _, _, _, _, _⟩) (v := _) rfl (by kernel_rfl) (by kernel_rfl) (by kernel_rfl) (fun _ _ _ h => h) (yieldsIf_load_mid (by rfl) 38 _ rfl w.heap.size 0 rfl (tmV T) _ HS1.out Tryd.underlying38 rfl HI2.out) (.inl hb0) ?_
          (try simp only [Act.put, List.setIfInBounds_toArray, List.set_cons_zero, List.set_cons_succ])
          refine wpAnyH_take (i := 4) (oi := ⟨some 22, _, _, _, _, _⟩) (v := _) rfl (by kernel_rfl) (by kernel_rfl) (by kernel_rfl) (fun _ _ _ h => h) (yieldsIf_load_mid (by rfl) 35 _ rfl pb 0 rfl [.int .i64 n, .int .i64 d] _ HS2.out Tryd.underlying35 rfl HS3.out) (.inl hb0) ?_
          (try simp only [Act.put, List.setIfInBounds_toArray, List.set_cons_zero, List.set_cons_succ])
          refine wpAnyH_ready (rs := [1]) (by kernel_rfl) (by simp) (AllReadyH.cons (o := ⟨some 19, _, _, _, _, _⟩) rfl (fun K hK => ?_) AllReadyH.nil)
          rw [if_pos (by rfl)]
          go_simp
          refine (ratio_any 3 2 _ (HPW.out.below hb0)).mono ?_
          rintro e u1 ⟨he, hc1⟩
          subst he
          have hb1 := hb0.trans (hc1.mono hb0.size)
          clear hc1
          (try go_wp2_with fail)
          refine hK.out _ _ (.inl hb1) (fun _ => ?_)
          clear hK K
          (try simp only [Act.put, List.setIfInBounds_toArray, List.set_cons_zero, List.set_cons_succ])
          refine wpAnyH_ready (rs := [3]) (by kernel_rfl) (by simp) (AllReadyH.cons (o := ⟨some 21, _, _, _, _, _⟩) rfl (fun K hK => ?_) AllReadyH.nil)
          rw [if_pos (by rfl)]
          go_simp
          refine (comma_any T _ (HPW.out.below hb1)).mono ?_
          rintro e u2 ⟨he, hc2⟩
          subst he
          have hb2 := hb1.trans (hc2.mono hb1.size)
          clear hc2
          (try go_wp2_with fail)
          refine hK.out _ _ (.inl hb2) (fun _ => ?_)
          clear hK K
          (try simp only [Act.put, List.setIfInBounds_toArray, List.set_cons_zero, List.set_cons_succ])
          refine wpAnyH_ready (rs := [5]) (by kernel_rfl) (by simp) (AllReadyH.cons (o := ⟨some 23, _, _, _, _, _⟩) rfl (fun K hK => ?_) AllReadyH.nil)
          rw [if_pos (by rfl)]
          go_simp
          refine (powR _ n d _).mono ?_
          rintro e u3 ⟨he, hc3⟩
          subst he
          have hb3 := hb2.trans (hc3.mono hb2.size)
          clear hc3
          (try go_wp2_with fail)
          refine hK.out _ _ (.inl hb3) (fun _ => ?_)
          clear hK K
          (try simp only [Act.put, List.setIfInBounds_toArray, List.set_cons_zero, List.set_cons_succ])
          refine wpAnyH_ready (rs := [6]) (by kernel_rfl) (by simp) (AllReadyH.cons (o := ⟨some 24, _, _, _, _, _⟩) rfl (fun K hK => ?_) AllReadyH.nil)
          rw [if_pos (by rfl)]
          go_simp
          refine (divR _ _ _).mono ?_
          rintro e u4 ⟨he, hc4⟩
          subst he
          have hb4 := hb3.trans (hc4.mono hb3.size)
          clear hc4
          (try go_wp2_with fail)
          refine hK.out _ _ (.inl hb4) (fun _ => ?_)
          clear hK K
          (try simp only [Act.put, List.setIfInBounds_toArray, List.set_cons_zero, List.set_cons_succ])
          refine wpAnyH_take (i := 7) (oi := ⟨some 25, _, _, _, _, _⟩) (v := ?_) rfl (by kernel_rfl) (by kernel_rfl) (by kernel_rfl) (fun _ _ _ h => h) (Or.inl ⟨by rfl, ?_⟩) (.inl hb4) ?_
          rotate_left
          · (intro w hSw; go_simp; (try (with_reducible rfl)))
          (try simp only [Act.put, List.setIfInBounds_toArray, List.set_cons_zero, List.set_cons_succ])
          refine wpAnyH_ready (rs := [8]) (by kernel_rfl) (by simp) (AllReadyH.cons (o := ⟨none, _, _, _, _, _⟩) rfl (fun K hK => ?_) AllReadyH.nil)
          rw [if_pos (by rfl)]
          have hth := (HA2.out.up hb4).there (o := i * 7) (n := 7) (by rw [fl7_len, rowR_len]; omega)
          refine wp_store_mid 24 _ _ rfl (w.heap.size + 1 + 1) (i * 7) (cellsR (bothW (ofW 3 2).1 (rpowW (cmW T) n d).1 (-1)).1).toArray rfl rfl hth (szR _) (oneR _) ?_
          refine hK.out _ _ (.inr ⟨_, hb4, rfl⟩) (fun _ => ?_)
          clear hK K
          (try simp only [Act.put, List.setIfInBounds_toArray, List.set_cons_zero, List.set_cons_succ])
          refine wpAnyH_done (by kernel_rfl) ?_ _
          refine NoPanic.normal ?_
          exact ⟨rfl, rfl, _, hb4, rfl⟩
        case h2 =>
          rintro w' ⟨W1, hb1, rfl⟩
          have hfv : (bothW (ofW 3 2).1 (rpowW (cmW T) n d).1 (-1)).1 = fivR T i := by unfold fivR; rw [HPN.out]
          rw [hfv]
          obtain ⟨W2, hW2⟩ : ∃ W2, W2 = W1.setCells (w.heap.size + 1 + 1) (i * 7) (cellsR (fivR T i)).toArray.toList := ⟨_, rfl⟩
          have e0 : RowV W2 w.heap.size 38 (tmV T) := by rw [hW2]; exact RowV.otherCells (Nat.ne_of_lt (by omega)) _ _ _ (HA0.out.up hb1)
          have e1 : RowV W2 (w.heap.size + 1) 90 (fl7 zero12) := by rw [hW2]; exact RowV.otherCells (Nat.ne_of_lt (by omega)) _ _ _ (HA1.out.up hb1)
          have e2 : RowV W2 (w.heap.size + 1 + 1) 90 (fl7 (rowR T wn (i + 1))) := by
            rw [hW2, ← rowR_set hiw hil]
            exact (HA2.out.up hb1).put7 (fivR T i) (by rw [rowR_len]; exact hil)
          have e3 : RowV W2 gl 24 (cellsR (lfR T wn i)) := by rw [hW2]; exact RowV.otherCells (Nat.ne_of_gt (by omega)) _ _ _ (HA3.out.up hb1)
          have eb : Below w.heap.size w W2 := by rw [hW2]; exact below_setCells _ _ _ (HAB.out.trans (hb1.mono HAB.out.size)) (by omega)
          rw [← hW2]
          have h7 := e2.at7 (rowR_at (T := T) (Nat.lt_succ_self i) hiw hil)
          have h8 := e3.all
          have g2lt := e2.lt
          have g3lt := e3.lt
          clear hfv hW2 hb1 HA0 HA1 HA2 HA3 HAB HAP HS1 HS2 HPW hszW hwp h2lt hszr hg3
          have hs1 : ∀ w', (Below W2.heap.size W2 w' ∨ ∃ W1, Below W2.heap.size W2 W1 ∧ w' = W1.setCells gl 0 (cellsR (bothW (lfR T wn i) (fivR T i) (-1)).1).toArray.toList) → w'.rangeAt (w.heap.size + 1 + 1) (i * 7) (cellsR (fivR T i)) := by
            rintro w' (h | ⟨W1, h, rfl⟩)
            · exact (e2.up h).at7 (rowR_at (T := T) (Nat.lt_succ_self i) hiw hil)
            · exact (RowV.otherCells (Nat.ne_of_lt (by omega)) _ _ _ (e2.up h)).at7 (rowR_at (T := T) (Nat.lt_succ_self i) hiw hil)
          have hs2 : ∀ w', Below W2.heap.size W2 w' → w'.rangeAt gl 0 (cellsR (lfR T wn i)) := fun w' h => (e3.up h).all
          have HS1 := Lib.hid hs1
          have HS2 := Lib.hid hs2
          have E0 := Lib.hid e0
          have E1 := Lib.hid e1
          have E2 := Lib.hid e2
          have E3 := Lib.hid e3
          have EB := Lib.hid eb
          clear e0 e1 e2 e3 eb h7 h8 hs1 hs2
          go_wp2_with fail
          apply wp_via _ (fun w' => ∃ W1, Below W2.heap.size W2 W1 ∧ w' = W1.setCells gl 0 (cellsR (bothW (lfR T wn i) (fivR T i) (-1)).1).toArray.toList)
          case h1 =>
            refine wp_region_noPanic ?_
            have hb0 : Below W2.heap.size W2 W2.drew := (Below.refl _ _).drew
            refine wp_region_held_drew (S := (fun w' => Below W2.heap.size W2 w' ∨ ∃ W1, Below W2.heap.size W2 W1 ∧ w' = W1.setCells gl 0 (cellsR (bothW (lfR T wn i) (fivR T i) (-1)).1).toArray.toList)) (by kernel_rfl) (.inl hb0) (fun _ => ?_)
            refine wpAnyH_take (i := 1) (oi := ⟨some 27, _, _, _, _, _⟩) (v := ?_) rfl (by kernel_rfl) (by kernel_rfl) (by kernel_rfl) (fun _ _ _ h => h) (Or.inl ⟨by rfl, ?_⟩) (.inl hb0) ?_
            rotate_left
            · (intro w hSw; go_simp; (try (with_reducible rfl)))
            (try simp only [Act.put, List.setIfInBounds_toArray, List.set_cons_zero, List.set_cons_succ])
            refine wpAnyH_take (i := 2) (oi := ⟨some 28, _, _, _, _, _⟩) (v := ?_) rfl (by kernel_rfl) (by kernel_rfl) (by kernel_rfl) (fun _ _ _ h => h) (Or.inl ⟨by rfl, ?_⟩) (.inl hb0) ?_
            rotate_left
            · (intro w hSw; go_simp; (try (with_reducible rfl)))
            (try simp only [Act.put, List.setIfInBounds_toArray, List.set_cons_zero, List.set_cons_succ])
            refine wpAnyH_take (i := 3) (oi := ⟨some 29, _, _, _, _, _⟩) (v := _) rfl (by kernel_rfl) (by kernel_rfl) (by kernel_rfl) (fun _ _ _ h => h) (yieldsIf_load_mid (by rfl) 24 _ rfl (w.heap.size + 1 + 1) (i * 7) rfl (cellsR (fivR T i)) _ HS1.out Tryd.underlying24 rfl (szR _)) (.inl hb0) ?_
            (try simp only [Act.put, List.setIfInBounds_toArray, List.set_cons_zero, List.set_cons_succ])
            refine wpAnyH_ready (rs := [0]) (by kernel_rfl) (by simp) (AllReadyH.cons (o := ⟨some 26, _, _, _, _, _⟩) rfl (fun K hK => ?_) AllReadyH.nil)
            rw [if_pos (by rfl)]
            refine wp_load_mid 24 _ rfl gl 0 rfl (cellsR (lfR T wn i)) _ (HS2.out _ hb0) Tryd.underlying24 rfl (szR _) ?_
            refine hK.out _ _ (.inl hb0) (fun _ => ?_)
            clear hK K
            (try simp only [Act.put, List.setIfInBounds_toArray, List.set_cons_zero, List.set_cons_succ])
            refine wpAnyH_ready (rs := [4]) (by kernel_rfl) (by simp) (AllReadyH.cons (o := ⟨some 30, _, _, _, _, _⟩) rfl (fun K hK => ?_) AllReadyH.nil)
            rw [if_pos (by rfl)]
            go_simp
            refine (divR _ _ _).mono ?_
            rintro e u1 ⟨he, hc1⟩
            subst he
            have hb1 := hb0.trans (hc1.mono hb0.size)
            clear hc1
            (try go_wp2_with fail)
            refine hK.out _ _ (.inl hb1) (fun _ => ?_)
            clear hK K
            (try simp only [Act.put, List.setIfInBounds_toArray, List.set_cons_zero, List.set_cons_succ])
            refine wpAnyH_ready (rs := [5]) (by kernel_rfl) (by simp) (AllReadyH.cons (o := ⟨none, _, _, _, _, _⟩) rfl (fun K hK => ?_) AllReadyH.nil)
            rw [if_pos (by rfl)]
            have hth := (E3.out.up hb1).there (o := 0) (n := 7) (by show 0 + 7 ≤ 7; omega)
            refine wp_store_mid 24 _ _ rfl gl 0 (cellsR (bothW (lfR T wn i) (fivR T i) (-1)).1).toArray rfl rfl hth (szR _) (oneR _) ?_
            refine hK.out _ _ (.inr ⟨_, hb1, rfl⟩) (fun _ => ?_)
            clear hK K
            (try simp only [Act.put, List.setIfInBounds_toArray, List.set_cons_zero, List.set_cons_succ])
            refine wpAnyH_done (by kernel_rfl) ?_ _
            refine NoPanic.normal ?_
            exact ⟨rfl, rfl, _, hb1, rfl⟩
          case h2 =>
            rintro w' ⟨W1, hb1, rfl⟩
            go_wp2_with fail
            refine ⟨⟨i + 1, by omega, by go_num, RowV.otherCells (Nat.ne_of_lt (by omega)) _ _ _ (E0.out.up hb1), RowV.otherCells (Nat.ne_of_lt (by omega)) _ _ _ (E1.out.up hb1), RowV.otherCells (Nat.ne_of_lt (by omega)) _ _ _ (E2.out.up hb1), ?_, below_setCells _ _ _ (EB.out.trans (hb1.mono EB.out.size)) (by omega)⟩, by simp [intOf]; omega⟩
            rw [show lfR T wn (i + 1) = (bothW (lfR T wn i) (fivR T i) (-1)).1 from if_neg hiw]
            exact (E3.out.up hb1).setCells (cellsR (bothW (lfR T wn i) (fivR T i) (-1)).1) 0 _ _ (by show 0 + 7 ≤ 7; omega)
    · obtain rfl : i = 12 := by omega
      have c2 := HWO.out _ H0.out
      have hwnI : (wn : Int) < 12 := by omega
      have h2lt := H2.out.lt
      have h3lt := H3.out.lt
      have hth1 := H2.out.there (o := wn * 7) (n := 7) (by rw [fl7_len, rowR_len]; omega)
      obtain ⟨W3, hW3⟩ : ∃ W3, W3 = wr.setCells (w.heap.size + 1 + 1) (wn * 7) (cellsR (lfR T wn 12)).toArray.toList := ⟨_, rfl⟩
      have e1 : RowV W3 (w.heap.size + 1) 90 (fl7 zero12) := by rw [hW3]; exact RowV.otherCells (Nat.ne_of_lt (by omega)) _ _ _ H1.out
      have e2 : RowV W3 (w.heap.size + 1 + 1) 90 (fl7 (fifR T wn)) := by
        rw [hW3]
        exact H2.out.put7 (lfR T wn 12) (by rw [rowR_len]; exact hw)
      have eb : Below w.heap.size w W3 := by rw [hW3]; exact below_setCells _ _ _ HB.out (by omega)
      have hfl : (fifR T wn).length = 12 := by unfold fifR; rw [List.length_set, rowR_len]
      have hth2 : W3.there (w.heap.size + 1) 0 (fl7 (fifR T wn)).toArray.size := e1.there (by rw [List.size_toArray, fl7_len, fl7_len, hfl]; show _ ≤ 7 * 12; omega)
      have HTH1 := Lib.hid hth1
      have HTH2 := Lib.hid hth2
      have HSZ := Lib.hid (sz65 hfl)
      have E2 := Lib.hid e2.all
      have E1 := Lib.hid e1
      have EB := Lib.hid eb
      have HW3 := Lib.hid hW3
      have H3A := Lib.hid H3.out.all
      have HFL := Lib.hid hfl
      clear hth1 hth2 e1 e2 eb hW3 hfl
      go_wp2_with (first | (refine wpList_load_mid rfl 24 _ rfl gl 0 rfl (cellsR (lfR T wn 12)) _ H3A.out Tryd.underlying24 rfl (szR _) ?_) | (refine wpList_store_mid rfl 24 _ _ rfl (w.heap.size + 1 + 1) (wn * 7) (cellsR (lfR T wn 12)).toArray rfl rfl HTH1.out (szR _) (oneR _) ?_; rw [← HW3.out]) | (refine wpList_load_mid rfl 90 _ rfl (w.heap.size + 1 + 1) 0 rfl (fl7 (fifR T wn)) _ E2.out Tryd.underlying90 rfl HSZ.out ?_) | (refine wpList_store_mid rfl 90 _ _ rfl (w.heap.size + 1) 0 (fl7 (fifR T wn)).toArray rfl rfl HTH2.out HSZ.out (one65 _) ?_))
      have hr4 : RowV (W3.setCells (w.heap.size + 1) 0 (fl7 (fifR T wn))) (w.heap.size + 1) 90 (fl7 (fifR T wn)) := by
        have h := E1.out.setCells (fl7 (fifR T wn)) 0 _ _ (by rw [fl7_len, fl7_len, HFL.out]; show _ ≤ 7 * 12; omega)
        have e : (fl7 zero12).take 0 ++ fl7 (fifR T wn) ++ (fl7 zero12).drop (0 + (fl7 (fifR T wn)).length) = fl7 (fifR T wn) := by
          rw [List.drop_eq_nil_of_le (by rw [fl7_len, fl7_len, HFL.out]; show 7 * 12 ≤ _; omega)]
          simp
        rw [e] at h
        exact h
      exact bodyPost_ret (v := .agg (fl7 (fifR T wn)).toArray) (results_cell rfl rfl (run_loadVar_mid _ _ 0 _ _ _ hr4.all Tryd.underlying90 rfl HSZ.out)) rfl ⟨rfl, below_setCells _ _ _ EB.out (by omega)⟩
end Go.Proofs.YtkoghdgfllichaaDoor.Tp
