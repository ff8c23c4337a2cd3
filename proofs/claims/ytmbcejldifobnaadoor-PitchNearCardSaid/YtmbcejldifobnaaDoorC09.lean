import Derived.Test.YtmbcejldifobnaaDoorC08
namespace Go.Proofs.YtmbcejldifobnaaDoor.Tp
open Go.RowKit
def psN (T : Tm) (i : Nat) : Int × Int := T.ps.getD i (0, 1)
def fivR (T : Tm) (i : Nat) : Rt := (bothW (ofW 3 2).1 (rpowW (cmW T) (psN T i).1 (psN T i).2).1 (-1)).1
def lfR (T : Tm) (wn : Nat) : Nat → Rt
  | 0 => (ofW 128 1).1
  | n + 1 => if n = wn then lfR T wn n else (bothW (lfR T wn n) (fivR T n) (-1)).1
def rowR (T : Tm) (wn n : Nat) : List Rt := (List.range 12).map fun i => if i < n ∧ i ≠ wn then fivR T i else Rt.zero
theorem rowR_len (T : Tm) (wn n : Nat) : (rowR T wn n).length = 12 := by simp [rowR]
theorem rowR_set {T : Tm} {wn n : Nat} (h : n ≠ wn) (hn : n < 12) : (rowR T wn n).set n (fivR T n) = rowR T wn (n + 1) := by
  apply List.ext_getElem?
  intro j
  by_cases hj : j < 12
  · by_cases e : j = n
    · subst e
      rw [List.getElem?_set_self (by rw [rowR_len]; omega)]
      simp [rowR, hj, h]
    · rw [List.getElem?_set_ne (by omega)]
      simp only [rowR, List.getElem?_map, List.getElem?_range hj, Option.map_some, Option.some.injEq]
      have : (j < n ∧ j ≠ wn) ↔ (j < n + 1 ∧ j ≠ wn) := by omega
      simp [this]
  · rw [List.getElem?_eq_none (by simp [rowR]; omega), List.getElem?_eq_none (by simp [rowR]; omega)]
theorem rowR_skip {T : Tm} {wn : Nat} : rowR T wn wn = rowR T wn (wn + 1) := by
  unfold rowR
  apply List.map_congr_left
  intro j _
  have : (j < wn ∧ j ≠ wn) ↔ (j < wn + 1 ∧ j ≠ wn) := by omega
  simp [this]
theorem rowR_at {T : Tm} {wn n i : Nat} (h : i < n) (hw : i ≠ wn) (hi : i < 12) : (rowR T wn n)[i]? = some (fivR T i) := by
  simp [rowR, hi, h, hw]
def fifR (T : Tm) (wn : Nat) : List Rt := (rowR T wn 12).set wn (lfR T wn 12)
theorem oneR (r : Rt) : (cellsR r).toArray.all (·.oneCell') = true := by simp [cellsR, Value.oneCell']
theorem one65 (rs : List Rt) : (fl7 rs).toArray.all (·.oneCell') = true := all_oneCell_toArray fun v hv => by
  obtain ⟨r, _, hr⟩ := List.mem_flatMap.1 hv
  simp only [cellsR, List.mem_cons, List.not_mem_nil, or_false] at hr
  rcases hr with h | h | h | h | h | h | h <;> subst h <;> rfl
theorem wp_via {P : Program} {c : Code} {Q : Exit → Act → World → Prop} {a : Act} {w : World} (F : Act) (S : World → Prop) (h1 : c.wp P (fun e a' w' => e = .normal ∧ a' = F ∧ S w') a w) (h2 : ∀ w', S w' → Q .normal F w') : c.wp P Q a w :=
  Code.wp_mono (fun e a' w' h => by obtain ⟨rfl, rfl, h⟩ := h; exact h2 w' h) h1
theorem results_cell {P : Program} {fn : Func} {tmps : Array Value} {w : World} {a : Nat} {t : TypeId} {A : Addr} {v : Value} (hf : fn.results = #[.cell a t]) (ha : tmps.getD a undef = .pointer (some A)) (hl : (loadVar t A).run P w = .ok v w) : (results fn tmps).run P w = .ok v w := by
  unfold results
  rw [hf]
  have ha2 : tmps[a]?.getD undef = .pointer (some A) := by rw [← ha, Array.getD_eq_getD_getElem?]
  simp [ha2, asAddr, Sem.run_bind, hl]
def zero12 : List Rt := List.replicate 12 Rt.zero
theorem zero65 (w : World) : (zeroValue 98).run Tryd.prog w = .ok (.agg (fl7 zero12).toArray) w := (zero_of_info (n := 84) (by kernel_rfl)).1 w
def FfRel (w : World) (T : Tm) (wn gl : Nat) (iv : Value) (wr : World) : Prop :=
  ∃ i : Nat, i ≤ 12 ∧ iv = .int .i64 (i : Int) ∧ RowV wr w.heap.size 38 (tmV T) ∧ RowV wr (w.heap.size + 1) 98 (fl7 zero12) ∧ RowV wr (w.heap.size + 1 + 1) 98 (fl7 (rowR T wn i)) ∧ RowV wr gl 24 (cellsR (lfR T wn i)) ∧ Below w.heap.size w wr
set_option maxRecDepth 100000 in
set_option maxHeartbeats 1000000 in
theorem fifthsOf_any (T : Tm) (wn : Nat) (w : World) (hp : PrL w) (hl : T.ps.length = 12) (hwn : T.wo = (wn : Int)) (hw : wn < 12) : Calls Tryd.prog 59 #[.agg (tmV T).toArray] w fun e w' => e = .returned (.agg (fl7 (fifR T wn)).toArray) ∧ Below w.heap.size w w' := by
  have hz := zero65
  have HR0 := Lib.hid (((RowV.of_alloc w 38 (tmV T)).alloc (.cells (fl7 zero12).toArray 98)).alloc (.cells (fl7 zero12).toArray 98))
  have hr1 : RowV ((w.alloc (.cells (tmV T).toArray 38)).alloc (.cells (fl7 zero12).toArray 98)) (w.heap.size + 1) 98 (fl7 zero12) := by
    have h := RowV.of_alloc (w.alloc (.cells (tmV T).toArray 38)) 98 (fl7 zero12)
    simp only [World.size_alloc] at h
    exact h
  have hr2 : RowV (((w.alloc (.cells (tmV T).toArray 38)).alloc (.cells (fl7 zero12).toArray 98)).alloc (.cells (fl7 zero12).toArray 98)) (w.heap.size + 1 + 1) 98 (fl7 zero12) := by
    have h := RowV.of_alloc ((w.alloc (.cells (tmV T).toArray 38)).alloc (.cells (fl7 zero12).toArray 98)) 98 (fl7 zero12)
    simp only [World.size_alloc] at h
    exact h
  have HR1 := Lib.hid (hr1.alloc (.cells (fl7 zero12).toArray 98))
  have HR2 := Lib.hid hr2
  have HB := Lib.hid (((belB w (.cells (tmV T).toArray 38)).alloc (by simp) (.cells (fl7 zero12).toArray 98)).alloc (by simp; omega) (.cells (fl7 zero12).toArray 98))
  have hwo : ∀ W, RowV W w.heap.size 38 (tmV T) → W.cell? ⟨w.heap.size, 2, none⟩ = some (.int .i64 (wn : Int)) := fun W h => h.cell (i := 2) (by rw [← hwn]; rfl)
  have HWO := Lib.hid hwo
  have HI := Lib.hid (sz2 hl)
  have HI2 := Lib.hid (szT hl)
  have HP2 := Lib.hid (fun W (h : RowV W w.heap.size 38 (tmV T)) => h.parts)
  have HX := Lib.hid (fun i p (h : T.ps[i]? = some p) W => idx2 hl h W)
  have HP := Lib.hid hp
  have HL := Lib.hid hl
  have HRA := Lib.hid (fun W (h : PrL W) => ratio_any 128 1 W h)
  have hlf0 : (ofW 128 1).1 = lfR T wn 0 := rfl
  have hz12 : zero12 = rowR T wn 0 := rfl
  rw [hlf0] at HRA
  have HZ12 := Lib.hid hz12
  clear hr1 hr2 hwo hp hl hwn hlf0 hz12
  go_enter Tryd.func59, Tryd.ntmps59
  go_wp2_with fail
  refine (HRA.out _ (HP.out.below (HB.out.mono (Nat.le_refl _)))).mono ?_
  rintro e w1 ⟨he, hb1⟩
  subst he
  have hr0 := HR0.out.up (hb1.mono (by simp))
  have hr1 := HR1.out.up (hb1.mono (by simp))
  have hr2 := HR2.out.up (hb1.mono (by simp))
  have hb := HB.out.trans (hb1.mono (by simp; omega))
  have hz1 := HR2.out.lt
  have hsz := hb1.size
  obtain ⟨wl, hwl⟩ : ∃ wl, wl = (w1.alloc (.cells #[.int .i64 0, .int .i64 0, .int .i64 0, .int .i64 0, .int .i64 0, .int .i64 0, .int .i64 0] 24)).setCells w1.heap.size 0 (cellsR (lfR T wn 0)).toArray.toList := ⟨_, rfl⟩
  have hth : (w1.alloc (.cells #[.int .i64 0, .int .i64 0, .int .i64 0, .int .i64 0, .int .i64 0, .int .i64 0, .int .i64 0] 24)).there w1.heap.size 0 (cellsR (lfR T wn 0)).toArray.size := (RowV.of_alloc w1 24 (cellsR Rt.zero)).there (by show 0 + 7 ≤ 7; omega)
  have hrl : RowV wl w1.heap.size 24 (cellsR (lfR T wn 0)) := by
    have h := (RowV.of_alloc w1 24 (cellsR Rt.zero)).setCells (cellsR (lfR T wn 0)) 0 _ _ (by show 0 + 7 ≤ 7; omega)
    rw [hwl]
    exact h
  have hbl : Below w.heap.size w wl := by
    rw [hwl]
    exact below_setCells _ _ _ (hb.alloc hb.size _) hb.size
  have hsz1 : w.heap.size + 1 + 1 < w1.heap.size := Nat.lt_of_lt_of_le hz1 hsz
  have hl0 : RowV wl w.heap.size 38 (tmV T) := by rw [hwl]; exact RowV.otherCells (Nat.ne_of_lt (by omega)) _ _ _ (hr0.alloc _)
  have hl1 : RowV wl (w.heap.size + 1) 98 (fl7 zero12) := by rw [hwl]; exact RowV.otherCells (Nat.ne_of_lt (by omega)) _ _ _ (hr1.alloc _)
  have hl2 : RowV wl (w.heap.size + 1 + 1) 98 (fl7 zero12) := by rw [hwl]; exact RowV.otherCells (Nat.ne_of_lt (by omega)) _ _ _ (hr2.alloc _)
  have hszl : w1.heap.size < wl.heap.size := hrl.lt
  have HTH := Lib.hid hth
  have HRL := Lib.hid hrl
  have HL0 := Lib.hid hl0
  have HL1 := Lib.hid hl1
  have HL2 := Lib.hid hl2
  have HBL := Lib.hid hbl
  have HWL := Lib.hid hwl
  have HSR := Lib.hid (szR (lfR T wn 0))
  clear hth hrl hl0 hl1 hl2 hbl hwl hr0 hr1 hr2 hb hb1 hz1 hsz HR0 HR1 HR2 HB
  go_wp2_with (first | (refine wpList_store_mid rfl 24 _ _ rfl w1.heap.size 0 (cellsR (lfR T wn 0)).toArray rfl rfl HTH.out HSR.out (oneR _) ?_; rw [← HWL.out]) | (refine wpList_load_mid rfl 36 _ rfl w.heap.size 3 rfl (fl2 T.ps) _ (HP2.out _ HL0.out) Tryd.underlying36 rfl HI.out ?_))
  obtain ⟨gl, hgl⟩ : ∃ gl, gl = w1.heap.size := ⟨_, rfl⟩
  rw [HZ12.out] at HL2
  rw [← hgl] at HRL hsz1 hszl
  rw [← hgl]
  have HLW := Lib.hid hszl
  clear hgl HTH HWL HSR hszl HRA
  go_loopw [10] (fun iv wr => FfRel w T wn gl iv wr) (fun iv _ => 12 - (intOf iv).toNat)
  case atStart => exact ⟨0, Nat.zero_le _, rfl, HL0.out, HL1.out, HL2.out, HRL.out, HBL.out⟩
  case round =>
    clear HL0 HL1 HL2 HRL HBL HLW
    obtain ⟨i, hi, rfl, h0, h1, h2, h3, hb⟩ := hrel
    have H0 := Lib.hid h0
    have H1 := Lib.hid h1
    have H2 := Lib.hid h2
    have H3 := Lib.hid h3
    have HB := Lib.hid hb
    clear h0 h1 h2 h3 hb
    by_cases hil : i < 12
    · obtain ⟨⟨n, d⟩, hn⟩ : ∃ p, T.ps[i]? = some p := ⟨T.ps[i]'(by have := HL.out; omega), List.getElem?_eq_getElem _⟩
      have hpn : psN T i = (n, d) := by unfold psN; rw [List.getD_eq_getElem?_getD, hn]; rfl
      have hix := fun W => HX.out i (n, d) hn W
      have hilI : (i : Int) < 12 := by omega
      have c2 := HWO.out _ (H0.out.alloc (.cells #[.int .i64 n, .int .i64 d] 35))
      have HA0 := Lib.hid (H0.out.alloc (.cells #[.int .i64 n, .int .i64 d] 35))
      have HA1 := Lib.hid (H1.out.alloc (.cells #[.int .i64 n, .int .i64 d] 35))
      have HA2 := Lib.hid (H2.out.alloc (.cells #[.int .i64 n, .int .i64 d] 35))
      have HA3 := Lib.hid (H3.out.alloc (.cells #[.int .i64 n, .int .i64 d] 35))
      have HAB := Lib.hid (HB.out.alloc HB.out.size (.cells #[.int .i64 n, .int .i64 d] 35))
      have HAP := Lib.hid (RowV.of_alloc wr 35 [.int .i64 n, .int .i64 d])
      have hszr := HB.out.size
      have hg3 := H3.out.lt
      have HPN := Lib.hid hpn
      clear hn hpn
      simp only at hix
      by_cases hiw : i = wn
      · subst hiw
        go_wp2
        refine ⟨⟨i + 1, by omega, by go_num, HA0.out, HA1.out, by rw [← rowR_skip]; exact HA2.out, by rw [show lfR T i (i + 1) = lfR T i i from if_pos rfl]; exact HA3.out, HAB.out⟩, by simp [intOf]; omega⟩
      · have hiwI : ¬ (i : Int) = (wn : Int) := by omega
        go_wp2_with fail
        obtain ⟨W, hW⟩ : ∃ W, W = wr.alloc (.cells #[.int .i64 n, .int .i64 d] 35) := ⟨_, rfl⟩
        have hszW : W.heap.size = wr.heap.size + 1 := by rw [hW, World.size_alloc]
        have hap := HAP.out
        have ha0 := HA0.out
        have ha1 := HA1.out
        have ha2 := HA2.out
        have ha3 := HA3.out
        have hab := HAB.out
        rw [← hW] at hap ha0 ha1 ha2 ha3 hab ⊢
        obtain ⟨pb, hpb⟩ : ∃ pb, pb = wr.heap.size := ⟨_, rfl⟩
        rw [← hpb] at hap hszr hg3 hszW ⊢
        have hwp := hap.lt
        have h2lt := ha2.lt
        have hs1 : ∀ w', (Below W.heap.size W w' ∨ ∃ W1, Below W.heap.size W W1 ∧ w' = W1.setCells (w.heap.size + 1 + 1) (i * 7) (cellsR (bothW (ofW 3 2).1 (rpowW (cmW T) n d).1 (-1)).1).toArray.toList) → w'.rangeAt w.heap.size 0 (tmV T) := by
          rintro w' (h | ⟨W1, h, rfl⟩)
          · exact (ha0.up h).all
          · exact (RowV.otherCells (Nat.ne_of_lt (by omega)) _ _ _ (ha0.up h)).all
        have hs2 : ∀ w', (Below W.heap.size W w' ∨ ∃ W1, Below W.heap.size W W1 ∧ w' = W1.setCells (w.heap.size + 1 + 1) (i * 7) (cellsR (bothW (ofW 3 2).1 (rpowW (cmW T) n d).1 (-1)).1).toArray.toList) → w'.rangeAt pb 0 [.int .i64 n, .int .i64 d] := by
          rintro w' (h | ⟨W1, h, rfl⟩)
          · exact (hap.up h).all
          · exact (RowV.otherCells (Nat.ne_of_gt (by omega)) _ _ _ (hap.up h)).all
        have HPW := Lib.hid (HP.out.below hab)
        have HS1 := Lib.hid hs1
        have HS2 := Lib.hid hs2
        have HS3 : Hid ((Tryd.prog.info? 35).map (·.size) = some 2) := Lib.hid (by kernel_rfl)
        clear HA0 HA1 HA2 HA3 HAB HAP H0 H1 H2 H3 HB hs1 hs2 c2 hW
        have HAP := Lib.hid hap
        have HA0 := Lib.hid ha0
        have HA1 := Lib.hid ha1
        have HA2 := Lib.hid ha2
        have HA3 := Lib.hid ha3
        have HAB := Lib.hid hab
        clear hap ha0 ha1 ha2 ha3 hab hix
        apply wp_via _ (fun w' => ∃ W1, Below W.heap.size W W1 ∧ w' = W1.setCells (w.heap.size + 1 + 1) (i * 7) (cellsR (bothW (ofW 3 2).1 (rpowW (cmW T) n d).1 (-1)).1).toArray.toList)
        case h1 =>
          refine wp_region_noPanic ?_
          have hb0 : Below W.heap.size W W.drew := (Below.refl _ _).drew
          refine wp_region_held_drew (S := fun w' => Below W.heap.size W w' ∨ ∃ W1, Below W.heap.size W W1 ∧ w' = W1.setCells (w.heap.size + 1 + 1) (i * 7) (cellsR (bothW (ofW 3 2).1 (rpowW (cmW T) n d).1 (-1)).1).toArray.toList) (by kernel_rfl) (.inl hb0) (fun _ => ?_)
          refine wpAnyH_take (i := 0) (oi := ⟨some 18, _, _, _, _, _⟩) (v := ?_) rfl (by kernel_rfl) (by kernel_rfl) (by kernel_rfl) (fun _ _ _ h => h) (Or.inl ⟨by rfl, ?_⟩) (.inl hb0) ?_
          rotate_left
          · (intro w hSw; go_simp; (try (with_reducible rfl)))
          (try simp only [Act.put, List.setIfInBounds_toArray, List.set_cons_zero, List.set_cons_succ])
          refine wpAnyH_take (i := 2) (oi := ⟨some 20, _, _, _, _, _⟩) (v := _) rfl (by kernel_rfl) (by kernel_rfl) (by kernel_rfl) (fun _ _ _ h => h) (yieldsIf_load_mid (by rfl) 38 _ rfl w.heap.size 0 rfl (tmV T) _ HS1.out Tryd.underlying38 rfl HI2.out) (.inl hb0) ?_
          (try simp only [Act.put, List.setIfInBounds_toArray, List.set_cons_zero, List.set_cons_succ])
          refine wpAnyH_take (i := 4) (oi := ⟨some 22, _, _, _, _, _⟩) (v := _) rfl (by kernel_rfl) (by kernel_rfl) (by kernel_rfl) (fun _ _ _ h => h) (yieldsIf_load_mid (by rfl) 35 _ rfl pb 0 rfl [.int .i64 n, .int .i64 d] _ HS2.out Tryd.underlying35 rfl HS3.out) (.inl hb0) ?_
          (try simp only [Act.put, List.setIfInBounds_toArray, List.set_cons_zero, List.set_cons_succ])
          refine wpAnyH_ready (rs := [1]) (by kernel_rfl) (by simp) (AllReadyH.cons (o := ⟨some 19, _, _, _, _, _⟩) rfl (fun K hK => ?_) AllReadyH.nil)
          rw [if_pos (by rfl)]
          go_simp
          refine (ratio_any 3 2 _ (HPW.out.below hb0)).mono ?_
          rintro e u1 ⟨he, hc1⟩
          subst he
          have hb1 := hb0.trans (hc1.mono hb0.size)
          clear hc1
          (try go_wp2_with fail)
          refine hK.out _ _ (.inl hb1) (fun _ => ?_)
          clear hK K
          (try simp only [Act.put, List.setIfInBounds_toArray, List.set_cons_zero, List.set_cons_succ])
          refine wpAnyH_ready (rs := [3]) (by kernel_rfl) (by simp) (AllReadyH.cons (o := ⟨some 21, _, _, _, _, _⟩) rfl (fun K hK => ?_) AllReadyH.nil)
          rw [if_pos (by rfl)]
          go_simp
          refine (comma_any T _ (HPW.out.below hb1)).mono ?_
          rintro e u2 ⟨he, hc2⟩
          subst he
          have hb2 := hb1.trans (hc2.mono hb1.size)
          clear hc2
          (try go_wp2_with fail)
          refine hK.out _ _ (.inl hb2) (fun _ => ?_)
          clear hK K
          (try simp only [Act.put, List.setIfInBounds_toArray, List.set_cons_zero, List.set_cons_succ])
          refine wpAnyH_ready (rs := [5]) (by kernel_rfl) (by simp) (AllReadyH.cons (o := ⟨some 23, _, _, _, _, _⟩) rfl (fun K hK => ?_) AllReadyH.nil)
          rw [if_pos (by rfl)]
          go_simp
          refine (powR _ n d _).mono ?_
          rintro e u3 ⟨he, hc3⟩
          subst he
          have hb3 := hb2.trans (hc3.mono hb2.size)
          clear hc3
          (try go_wp2_with fail)
          refine hK.out _ _ (.inl hb3) (fun _ => ?_)
          clear hK K
          (try simp only [Act.put, List.setIfInBounds_toArray, List.set_cons_zero, List.set_cons_succ])
          refine wpAnyH_ready (rs := [6]) (by kernel_rfl) (by simp) (AllReadyH.cons (o := ⟨some 24, _, _, _, _, _⟩) rfl (fun K hK => ?_) AllReadyH.nil)
          rw [if_pos (by rfl)]
          go_simp
          refine (divR _ _ _).mono ?_
          rintro e u4 ⟨he, hc4⟩
          subst he
          have hb4 := hb3.trans (hc4.mono hb3.size)
          clear hc4
          (try go_wp2_with fail)
          refine hK.out _ _ (.inl hb4) (fun _ => ?_)
          clear hK K
          (try simp only [Act.put, List.setIfInBounds_toArray, List.set_cons_zero, List.set_cons_succ])
          refine wpAnyH_take (i := 7) (oi := ⟨some 25, _, _, _, _, _⟩) (v := ?_) rfl (by kernel_rfl) (by kernel_rfl) (by kernel_rfl) (fun _ _ _ h => h) (Or.inl ⟨by rfl, ?_⟩) (.inl hb4) ?_
          rotate_left
          · (intro w hSw; go_simp; (try (with_reducible rfl)))
          (try simp only [Act.put, List.setIfInBounds_toArray, List.set_cons_zero, List.set_cons_succ])
          refine wpAnyH_ready (rs := [8]) (by kernel_rfl) (by simp) (AllReadyH.cons (o := ⟨none, _, _, _, _, _⟩) rfl (fun K hK => ?_) AllReadyH.nil)
          rw [if_pos (by rfl)]
          have hth := (HA2.out.up hb4).there (o := i * 7) (n := 7) (by rw [fl7_len, rowR_len]; omega)
          refine wp_store_mid 24 _ _ rfl (w.heap.size + 1 + 1) (i * 7) (cellsR (bothW (ofW 3 2).1 (rpowW (cmW T) n d).1 (-1)).1).toArray rfl rfl hth (szR _) (oneR _) ?_
          refine hK.out _ _ (.inr ⟨_, hb4, rfl⟩) (fun _ => ?_)
          clear hK K
          (try simp only [Act.put, List.setIfInBounds_toArray, List.set_cons_zero, List.set_cons_succ])
          refine wpAnyH_done (by kernel_rfl) ?_ _
          refine NoPanic.normal ?_
          exact ⟨rfl, rfl, _, hb4, rfl⟩
        case h2 =>
          rintro w' ⟨W1, hb1, rfl⟩
          have hfv : (bothW (ofW 3 2).1 (rpowW (cmW T) n d).1 (-1)).1 = fivR T i := by unfold fivR; rw [HPN.out]
          rw [hfv]
          obtain ⟨W2, hW2⟩ : ∃ W2, W2 = W1.setCells (w.heap.size + 1 + 1) (i * 7) (cellsR (fivR T i)).toArray.toList := ⟨_, rfl⟩
          have e0 : RowV W2 w.heap.size 38 (tmV T) := by rw [hW2]; exact RowV.otherCells (Nat.ne_of_lt (by omega)) _ _ _ (HA0.out.up hb1)
          have e1 : RowV W2 (w.heap.size + 1) 98 (fl7 zero12) := by rw [hW2]; exact RowV.otherCells (Nat.ne_of_lt (by omega)) _ _ _ (HA1.out.up hb1)
          have e2 : RowV W2 (w.heap.size + 1 + 1) 98 (fl7 (rowR T wn (i + 1))) := by
            rw [hW2, ← rowR_set hiw hil]
            exact (HA2.out.up hb1).put7 (fivR T i) (by rw [rowR_len]; exact hil)
          have e3 : RowV W2 gl 24 (cellsR (lfR T wn i)) := by rw [hW2]; exact RowV.otherCells (Nat.ne_of_gt (by omega)) _ _ _ (HA3.out.up hb1)
          have eb : Below w.heap.size w W2 := by rw [hW2]; exact below_setCells _ _ _ (HAB.out.trans (hb1.mono HAB.out.size)) (by omega)
          rw [← hW2]
          have h7 := e2.at7 (rowR_at (T := T) (Nat.lt_succ_self i) hiw hil)
          have h8 := e3.all
          have g2lt := e2.lt
          have g3lt := e3.lt
          clear hfv hW2 hb1 HA0 HA1 HA2 HA3 HAB HAP HS1 HS2 HPW hszW hwp h2lt hszr hg3
          have hs1 : ∀ w', (Below W2.heap.size W2 w' ∨ ∃ W1, Below W2.heap.size W2 W1 ∧ w' = W1.setCells gl 0 (cellsR (bothW (lfR T wn i) (fivR T i) (-1)).1).toArray.toList) → w'.rangeAt (w.heap.size + 1 + 1) (i * 7) (cellsR (fivR T i)) := by
            rintro w' (h | ⟨W1, h, rfl⟩)
            · exact (e2.up h).at7 (rowR_at (T := T) (Nat.lt_succ_self i) hiw hil)
            · exact (RowV.otherCells (Nat.ne_of_lt (by omega)) _ _ _ (e2.up h)).at7 (rowR_at (T := T) (Nat.lt_succ_self i) hiw hil)
          have hs2 : ∀ w', Below W2.heap.size W2 w' → w'.rangeAt gl 0 (cellsR (lfR T wn i)) := fun w' h => (e3.up h).all
          have HS1 := Lib.hid hs1
          have HS2 := Lib.hid hs2
          have E0 := Lib.hid e0
          have E1 := Lib.hid e1
          have E2 := Lib.hid e2
          have E3 := Lib.hid e3
          have EB := Lib.hid eb
          clear e0 e1 e2 e3 eb h7 h8 hs1 hs2
          go_wp2_with fail
          apply wp_via _ (fun w' => ∃ W1, Below W2.heap.size W2 W1 ∧ w' = W1.setCells gl 0 (cellsR (bothW (lfR T wn i) (fivR T i) (-1)).1).toArray.toList)
          case h1 =>
            refine wp_region_noPanic ?_
            have hb0 : Below W2.heap.size W2 W2.drew := (Below.refl _ _).drew
            refine wp_region_held_drew (S := (fun w' => Below W2.heap.size W2 w' ∨ ∃ W1, Below W2.heap.size W2 W1 ∧ w' = W1.setCells gl 0 (cellsR (bothW (lfR T wn i) (fivR T i) (-1)).1).toArray.toList)) (by kernel_rfl) (.inl hb0) (fun _ => ?_)
            refine wpAnyH_take (i := 1) (oi := ⟨some 27, _, _, _, _, _⟩) (v := ?_) rfl (by kernel_rfl) (by kernel_rfl) (by kernel_rfl) (fun _ _ _ h => h) (Or.inl ⟨by rfl, ?_⟩) (.inl hb0) ?_
            rotate_left
            · (intro w hSw; go_simp; (try (with_reducible rfl)))
            (try simp only [Act.put, List.setIfInBounds_toArray, List.set_cons_zero, List.set_cons_succ])
            refine wpAnyH_take (i := 2) (oi := ⟨some 28, _, _, _, _, _⟩) (v := ?_) rfl (by kernel_rfl) (by kernel_rfl) (by kernel_rfl) (fun _ _ _ h => h) (Or.inl ⟨by rfl, ?_⟩) (.inl hb0) ?_
            rotate_left
            · (intro w hSw; go_simp; (try (with_reducible rfl)))
            (try simp only [Act.put, List.setIfInBounds_toArray, List.set_cons_zero, List.set_cons_succ])
            refine wpAnyH_take (i := 3) (oi := ⟨some 29, _, _, _, _, _⟩) (v := _) rfl (by kernel_rfl) (by kernel_rfl) (by kernel_rfl) (fun _ _ _ h => h) (yieldsIf_load_mid (by rfl) 24 _ rfl (w.heap.size + 1 + 1) (i * 7) rfl (cellsR (fivR T i)) _ HS1.out Tryd.underlying24 rfl (szR _)) (.inl hb0) ?_
            (try simp only [Act.put, List.setIfInBounds_toArray, List.set_cons_zero, List.set_cons_succ])
            refine wpAnyH_ready (rs := [0]) (by kernel_rfl) (by simp) (AllReadyH.cons (o := ⟨some 26, _, _, _, _, _⟩) rfl (fun K hK => ?_) AllReadyH.nil)
            rw [if_pos (by rfl)]
            refine wp_load_mid 24 _ rfl gl 0 rfl (cellsR (lfR T wn i)) _ (HS2.out _ hb0) Tryd.underlying24 rfl (szR _) ?_
            refine hK.out _ _ (.inl hb0) (fun _ => ?_)
            clear hK K
            (try simp only [Act.put, List.setIfInBounds_toArray, List.set_cons_zero, List.set_cons_succ])
            refine wpAnyH_ready (rs := [4]) (by kernel_rfl) (by simp) (AllReadyH.cons (o := ⟨some 30, _, _, _, _, _⟩) rfl (fun K hK => ?_) AllReadyH.nil)
            rw [if_pos (by rfl)]
            go_simp
            refine (divR _ _ _).mono ?_
            rintro e u1 ⟨he, hc1⟩
            subst he
            have hb1 := hb0.trans (hc1.mono hb0.size)
            clear hc1
            (try go_wp2_with fail)
            refine hK.out _ _ (.inl hb1) (fun _ => ?_)
            clear hK K
            (try simp only [Act.put, List.setIfInBounds_toArray, List.set_cons_zero, List.set_cons_succ])
            refine wpAnyH_ready (rs := [5]) (by kernel_rfl) (by simp) (AllReadyH.cons (o := ⟨none, _, _, _, _, _⟩) rfl (fun K hK => ?_) AllReadyH.nil)
            rw [if_pos (by rfl)]
            have hth := (E3.out.up hb1).there (o := 0) (n := 7) (by show 0 + 7 ≤ 7; omega)
            refine wp_store_mid 24 _ _ rfl gl 0 (cellsR (bothW (lfR T wn i) (fivR T i) (-1)).1).toArray rfl rfl hth (szR _) (oneR _) ?_
            refine hK.out _ _ (.inr ⟨_, hb1, rfl⟩) (fun _ => ?_)
            clear hK K
            (try simp only [Act.put, List.setIfInBounds_toArray, List.set_cons_zero, List.set_cons_succ])
            refine wpAnyH_done (by kernel_rfl) ?_ _
            refine NoPanic.normal ?_
            exact ⟨rfl, rfl, _, hb1, rfl⟩
          case h2 =>
            rintro w' ⟨W1, hb1, rfl⟩
            go_wp2_with fail
            refine ⟨⟨i + 1, by omega, by go_num, RowV.otherCells (Nat.ne_of_lt (by omega)) _ _ _ (E0.out.up hb1), RowV.otherCells (Nat.ne_of_lt (by omega)) _ _ _ (E1.out.up hb1), RowV.otherCells (Nat.ne_of_lt (by omega)) _ _ _ (E2.out.up hb1), ?_, below_setCells _ _ _ (EB.out.trans (hb1.mono EB.out.size)) (by omega)⟩, by simp [intOf]; omega⟩
            rw [show lfR T wn (i + 1) = (bothW (lfR T wn i) (fivR T i) (-1)).1 from if_neg hiw]
            exact (E3.out.up hb1).setCells (cellsR (bothW (lfR T wn i) (fivR T i) (-1)).1) 0 _ _ (by show 0 + 7 ≤ 7; omega)
    · obtain rfl : i = 12 := by omega
      have c2 := HWO.out _ H0.out
      have hwnI : (wn : Int) < 12 := by omega
      have h2lt := H2.out.lt
      have h3lt := H3.out.lt
      have hth1 := H2.out.there (o := wn * 7) (n := 7) (by rw [fl7_len, rowR_len]; omega)
      obtain ⟨W3, hW3⟩ : ∃ W3, W3 = wr.setCells (w.heap.size + 1 + 1) (wn * 7) (cellsR (lfR T wn 12)).toArray.toList := ⟨_, rfl⟩
      have e1 : RowV W3 (w.heap.size + 1) 98 (fl7 zero12) := by rw [hW3]; exact RowV.otherCells (Nat.ne_of_lt (by omega)) _ _ _ H1.out
      have e2 : RowV W3 (w.heap.size + 1 + 1) 98 (fl7 (fifR T wn)) := by
        rw [hW3]
        exact H2.out.put7 (lfR T wn 12) (by rw [rowR_len]; exact hw)
      have eb : Below w.heap.size w W3 := by rw [hW3]; exact below_setCells _ _ _ HB.out (by omega)
      have hfl : (fifR T wn).length = 12 := by unfold fifR; rw [List.length_set, rowR_len]
      have hth2 : W3.there (w.heap.size + 1) 0 (fl7 (fifR T wn)).toArray.size := e1.there (by rw [List.size_toArray, fl7_len, fl7_len, hfl]; show _ ≤ 7 * 12; omega)
      have HTH1 := Lib.hid hth1
      have HTH2 := Lib.hid hth2
      have HSZ := Lib.hid (sz65 hfl)
      have E2 := Lib.hid e2.all
      have E1 := Lib.hid e1
      have EB := Lib.hid eb
      have HW3 := Lib.hid hW3
      have H3A := Lib.hid H3.out.all
      have HFL := Lib.hid hfl
      clear hth1 hth2 e1 e2 eb hW3 hfl
      go_wp2_with (first | (refine wpList_load_mid rfl 24 _ rfl gl 0 rfl (cellsR (lfR T wn 12)) _ H3A.out Tryd.underlying24 rfl (szR _) ?_) | (refine wpList_store_mid rfl 24 _ _ rfl (w.heap.size + 1 + 1) (wn * 7) (cellsR (lfR T wn 12)).toArray rfl rfl HTH1.out (szR _) (oneR _) ?_; rw [← HW3.out]) | (refine wpList_load_mid rfl 98 _ rfl (w.heap.size + 1 + 1) 0 rfl (fl7 (fifR T wn)) _ E2.out Tryd.underlying98 rfl HSZ.out ?_) | (refine wpList_store_mid rfl 98 _ _ rfl (w.heap.size + 1) 0 (fl7 (fifR T wn)).toArray rfl rfl HTH2.out HSZ.out (one65 _) ?_))
      have hr4 : RowV (W3.setCells (w.heap.size + 1) 0 (fl7 (fifR T wn))) (w.heap.size + 1) 98 (fl7 (fifR T wn)) := by
        have h := E1.out.setCells (fl7 (fifR T wn)) 0 _ _ (by rw [fl7_len, fl7_len, HFL.out]; show _ ≤ 7 * 12; omega)
        have e : (fl7 zero12).take 0 ++ fl7 (fifR T wn) ++ (fl7 zero12).drop (0 + (fl7 (fifR T wn)).length) = fl7 (fifR T wn) := by
          rw [List.drop_eq_nil_of_le (by rw [fl7_len, fl7_len, HFL.out]; show 7 * 12 ≤ _; omega)]
          simp
        rw [e] at h
        exact h
      exact bodyPost_ret (v := .agg (fl7 (fifR T wn)).toArray) (results_cell rfl rfl (run_loadVar_mid _ _ 0 _ _ _ hr4.all Tryd.underlying98 rfl HSZ.out)) rfl ⟨rfl, below_setCells _ _ _ EB.out (by omega)⟩
end Go.Proofs.YtmbcejldifobnaaDoor.Tp

namespace Go.Proofs.YtmbcejldifobnaaDoor.Tp
open Go.RowKit
theorem ofW_of {num den r a0 a1 a2 a3 a4 a5 b0 b1 b2 b3 b4 b5 : Nat} (hn : 1 ≤ num ∧ num ≤ 1000000000000) (hd : 1 ≤ den ∧ den ≤ 1000000000000) (h1 : sts ps6 num = (r, [a0, a1, a2, a3, a4, a5])) (h2 : sts ps6 den = (r, [b0, b1, b2, b3, b4, b5])) :
    ofW (num : Int) (den : Int) = (⟨⟨(a0 : Int) - b0, (a1 : Int) - b1, (a2 : Int) - b2, (a3 : Int) - b3, (a4 : Int) - b4, (a5 : Int) - b5⟩, 1⟩, 0) := by
  unfold ofW
  rw [if_pos (by omega), Int.toNat_natCast, Int.toNat_natCast, if_pos (by rw [h1, h2])]
  unfold ofZ
  rw [h1, h2]
  rfl
theorem sts_1 : sts ps6 1 = (1, [0, 0, 0, 0, 0, 0]) := sts6_of (n1 := 1) (n2 := 1) (n3 := 1) (n4 := 1) (n5 := 1) (by decide) (by decide) (by decide) (by decide) (by decide) (by decide) (by decide) (by decide) (by decide) (by decide) (by decide) (by decide)
theorem sts_2 : sts ps6 2 = (1, [1, 0, 0, 0, 0, 0]) := sts6_of (n1 := 1) (n2 := 1) (n3 := 1) (n4 := 1) (n5 := 1) (by decide) (by decide) (by decide) (by decide) (by decide) (by decide) (by decide) (by decide) (by decide) (by decide) (by decide) (by decide)
theorem sts_3 : sts ps6 3 = (1, [0, 1, 0, 0, 0, 0]) := sts6_of (n1 := 3) (n2 := 1) (n3 := 1) (n4 := 1) (n5 := 1) (by decide) (by decide) (by decide) (by decide) (by decide) (by decide) (by decide) (by decide) (by decide) (by decide) (by decide) (by decide)
theorem sts_128 : sts ps6 128 = (1, [7, 0, 0, 0, 0, 0]) := sts6_of (n1 := 1) (n2 := 1) (n3 := 1) (n4 := 1) (n5 := 1) (by decide) (by decide) (by decide) (by decide) (by decide) (by decide) (by decide) (by decide) (by decide) (by decide) (by decide) (by decide)
theorem sts_81 : sts ps6 81 = (1, [0, 4, 0, 0, 0, 0]) := sts6_of (n1 := 81) (n2 := 1) (n3 := 1) (n4 := 1) (n5 := 1) (by decide) (by decide) (by decide) (by decide) (by decide) (by decide) (by decide) (by decide) (by decide) (by decide) (by decide) (by decide)
theorem sts_80 : sts ps6 80 = (1, [4, 0, 1, 0, 0, 0]) := sts6_of (n1 := 5) (n2 := 5) (n3 := 1) (n4 := 1) (n5 := 1) (by decide) (by decide) (by decide) (by decide) (by decide) (by decide) (by decide) (by decide) (by decide) (by decide) (by decide) (by decide)
theorem sts_a : sts ps6 531441 = (1, [0, 12, 0, 0, 0, 0]) := sts6_of (n1 := 531441) (n2 := 1) (n3 := 1) (n4 := 1) (n5 := 1) (by decide) (by decide) (by decide) (by decide) (by decide) (by decide) (by decide) (by decide) (by decide) (by decide) (by decide) (by decide)
theorem sts_b : sts ps6 524288 = (1, [19, 0, 0, 0, 0, 0]) := sts6_of (n1 := 1) (n2 := 1) (n3 := 1) (n4 := 1) (n5 := 1) (by decide) (by decide) (by decide) (by decide) (by decide) (by decide) (by decide) (by decide) (by decide) (by decide) (by decide) (by decide)
def w32 : V6 := ⟨-1, 1, 0, 0, 0, 0⟩
def cmV (sy : Bool) : V6 := if sy = true then ⟨-4, 4, -1, 0, 0, 0⟩ else ⟨-19, 12, 0, 0, 0, 0⟩
theorem low_one {v : V6} : lowR v 1 = ⟨v, 1⟩ := by
  have l := lowR_val (v := v) (d := 1)
  have q := quo_back (v := v) (d := 1)
  obtain ⟨g, p⟩ := quo_low (v := v) (d := 1) (by omega)
  have e : (lowR v 1).d = 1 := by
    show (1 : Int).tdiv (v.gs 1) = 1
    have hp := gs_pos (v := v) (d := 1) (by omega)
    have h2 := q.2
    rcases Int.lt_or_le 1 (v.gs 1) with h | h
    · rw [Int.tdiv_eq_zero_of_lt (by omega) h] at h2; omega
    · obtain h3 : v.gs 1 = 1 := by omega
      rw [h3]; rfl
  have p' : 0 < (lowR v 1).d := p
  rw [e] at l
  exact Rt.eq (V6.scl_inj (k := 1) (by omega) (by rw [l])) e
theorem of_low {v : V6} {r : Rt} (D : Int) (hD : 0 < D) (h : r = ⟨v, 1⟩) : r = lowR (V6.scl D v) D := by
  have e := low_scl (v := v) (D := 1) (k := D) (by omega) hD
  rw [Int.mul_one] at e
  rw [h, e, low_one]
theorem of_32 : (ofW 3 2).1 = ⟨w32, 1⟩ := by rw [show ofW 3 2 = _ from ofW_of (num := 3) (den := 2) (by omega) (by omega) sts_3 sts_2]; rfl
theorem of_11 : (ofW 1 1).1 = ⟨octV 0, 1⟩ := by rw [show ofW 1 1 = _ from ofW_of (num := 1) (den := 1) (by omega) (by omega) sts_1 sts_1]; rfl
theorem of_128 : (ofW 128 1).1 = ⟨octV 7, 1⟩ := by rw [show ofW 128 1 = _ from ofW_of (num := 128) (den := 1) (by omega) (by omega) sts_128 sts_1]; rfl
theorem cmW_low (T : Tm) : cmW T = ⟨cmV T.sy, 1⟩ := by
  unfold cmW cmV
  cases T.sy
  · show (ofW 531441 524288).1 = _
    rw [show ofW 531441 524288 = _ from ofW_of (num := 531441) (den := 524288) (by omega) (by omega) sts_a sts_b]; rfl
  · show (ofW 81 80).1 = _
    rw [show ofW 81 80 = _ from ofW_of (num := 81) (den := 80) (by omega) (by omega) sts_81 sts_80]; rfl
/-- A fifth over the denominator D, narrower by q / D of the comma. -/
def fvV (D : Int) (c : V6) (q : Int) : V6 := (V6.scl D w32).add (V6.scl (-1) (V6.scl q c))
theorem cmV_cases (sy : Bool) : cmV sy = ⟨-4, 4, -1, 0, 0, 0⟩ ∨ cmV sy = ⟨-19, 12, 0, 0, 0, 0⟩ := by
  cases sy
  · exact .inr rfl
  · exact .inl rfl
theorem fvV_bd {D q : Int} {sy : Bool} (h1 : 1 ≤ D) (h2 : D ≤ 120) (hq : -(2 * D) ≤ q ∧ q ≤ 2 * D) : (fvV D (cmV sy) q).bd 4680 := by
  unfold fvV V6.bd V6.add V6.scl w32
  rcases cmV_cases sy with e | e <;> rw [e] <;> simp only <;> omega
theorem Sg_up (v : V6) (h : dnP v.zl ≤ upP v.zl) : 0 ≤ Sg v := sgn_ge.2 h
theorem fvV_bt {D q : Int} {sy : Bool} (h1 : 1 ≤ D) (hq : -(2 * D) ≤ q ∧ q ≤ 2 * D) : Bt D (fvV D (cmV sy) q) 0 1 := by
  have two : ∀ v : V6, 0 ≤ Sg (V6.scl 2 v) → 0 ≤ Sg v := fun v h => by rw [Sg_scl 2 v (by omega)] at h; exact h
  have k1 : 0 ≤ Sg w32 := Sg_up _ (by decide)
  have k2 : 0 ≤ Sg (cmV sy) := by rcases cmV_cases sy with e | e <;> rw [e] <;> exact Sg_up _ (by decide)
  have k3 : 0 ≤ Sg (w32.add (V6.scl (-2) (cmV sy))) := by rcases cmV_cases sy with e | e <;> rw [e] <;> exact Sg_up _ (by decide)
  have k4 : 0 ≤ Sg ((octV 1).add (V6.scl (-1) w32)) := Sg_up _ (by decide)
  have k5 : 0 ≤ Sg (((octV 1).add (V6.scl (-1) w32)).add (V6.scl (-2) (cmV sy))) := by rcases cmV_cases sy with e | e <;> rw [e] <;> exact Sg_up _ (by decide)
  generalize cmV sy = c at *
  have e1 : ∀ v : V6, v.two (-(0 * D)) = v := fun v => by rw [Int.zero_mul, Int.neg_zero, V6.two_zero]
  constructor
  · rw [e1]
    apply two
    rcases Int.lt_or_le q 0 with h | h
    · have h3 := Sg_add_ge (Sg_scl_nn (k := 2 * D) (by omega) k1) (Sg_scl_nn (k := -(2 * q)) (by omega) k2)
      have e : V6.scl 2 (fvV D c q) = (V6.scl (2 * D) w32).add (V6.scl (-(2 * q)) c) := by
        unfold fvV V6.scl V6.add w32; apply V6.eq <;> simp only <;> grind
      rw [e]; exact h3
    · have h3 := Sg_add_ge (Sg_scl_nn (k := 2 * D - q) (by omega) k1) (Sg_scl_nn (k := q) (by omega) k3)
      have e : V6.scl 2 (fvV D c q) = (V6.scl (2 * D - q) w32).add (V6.scl q (w32.add (V6.scl (-2) c))) := by
        unfold fvV V6.scl V6.add w32; apply V6.eq <;> simp only <;> grind
      rw [e]; exact h3
  · apply two
    rcases Int.lt_or_le q 0 with h | h
    · have h3 := Sg_add_ge (Sg_scl_nn (k := 2 * D + q) (by omega) k4) (Sg_scl_nn (k := -q) (by omega) k5)
      have e : V6.scl 2 ((V6.scl (-1) (fvV D c q)).two (1 * D)) = (V6.scl (2 * D + q) ((octV 1).add (V6.scl (-1) w32))).add (V6.scl (-q) (((octV 1).add (V6.scl (-1) w32)).add (V6.scl (-2) c))) := by
        unfold fvV V6.scl V6.add w32 octV V6.two; apply V6.eq <;> simp only <;> grind
      rw [e]; exact h3
    · have h3 := Sg_add_ge (Sg_scl_nn (k := 2 * D) (by omega) k4) (Sg_scl_nn (k := 2 * q) (by omega) k2)
      have e : V6.scl 2 ((V6.scl (-1) (fvV D c q)).two (1 * D)) = (V6.scl (2 * D) ((octV 1).add (V6.scl (-1) w32))).add (V6.scl (2 * q) c) := by
        unfold fvV V6.scl V6.add w32 octV V6.two; apply V6.eq <;> simp only <;> grind
      rw [e]; exact h3
end Go.Proofs.YtmbcejldifobnaaDoor.Tp

namespace Go.Proofs.YtmbcejldifobnaaDoor.Tp
open Go.RowKit
theorem lc_dvd {ps : List (Int × Int)} {i : Nat} {p : Int × Int} (h : ps[i]? = some p) : p.2.natAbs ∣ lcL ps := by
  refine Nat.dvd_trans ?_ (lc_take ps (i + 1))
  rw [lc_step h]
  exact Nat.dvd_lcm_right _ _
theorem chk_ok {T : Tm} (h : chkT T = 0) : fitsT T = true ∧ formedT T = true ∧ agreeT T = true := by
  unfold chkT at h
  split at h
  · rename_i h1
    split at h
    · rename_i h2
      split at h
      · rename_i h3
        exact ⟨h1, h2, h3⟩
      · cases h
    · cases h
  · cases h
/-- The numerators over the common denominator. -/
def qN (T : Tm) (D : Int) (i : Nat) : Int := (psN T i).1 * (D / (psN T i).2)
def fN (T : Tm) (D : Int) (i : Nat) : V6 := fvV D (cmV T.sy) (qN T D i)
/-- A valid temperament with the fifth wn left, over the denominator D. -/
structure Vd (T : Tm) (D : Int) (wn : Nat) : Prop where
  wo : T.wo = (wn : Int)
  w : wn < 12
  d1 : 1 ≤ D
  d2 : D ≤ 120
  ps : ∀ i, i < 12 → 1 ≤ (psN T i).2 ∧ (psN T i).2 ≤ 24 ∧ -2 * (psN T i).2 ≤ (psN T i).1 ∧ (psN T i).1 ≤ 2 * (psN T i).2 ∧ (psN T i).2 * (D / (psN T i).2) = D ∧ 1 ≤ D / (psN T i).2
  wz : qN T D wn = 0
theorem psN_at {T : Tm} {i : Nat} {p : Int × Int} (h : T.ps[i]? = some p) : psN T i = p := by unfold psN; rw [List.getD_eq_getElem?_getD, h]; rfl
theorem chk_vd {T : Tm} (hl : T.ps.length = 12) (h : chkT T = 0) : ∃ (D : Int) (wn : Nat), D = ((lcL T.ps : Nat) : Int) ∧ Vd T D wn := by
  obtain ⟨h1, h2, h3⟩ := chk_ok h
  unfold fitsT at h1
  simp only [Bool.and_eq_true, decide_eq_true_eq] at h1
  obtain ⟨h4, h5, h6⟩ := h1
  unfold agreeT at h3
  simp only [decide_eq_true_eq] at h3
  unfold formedT at h2
  simp only [Bool.and_eq_true] at h2
  obtain ⟨-, -, h7⟩ := h2
  have hpos : 0 < lcL T.ps := lc_pos T.ps 1 (by omega) fun p hp => (pOk_iff.1 (List.all_eq_true.1 h4 p hp)).1.1
  refine ⟨((lcL T.ps : Nat) : Int), T.wo.toNat, rfl, by omega, by omega, by omega, by omega, fun i hi => ?_, ?_⟩
  · obtain ⟨p, hp⟩ : ∃ p, T.ps[i]? = some p := ⟨T.ps[i]'(by omega), List.getElem?_eq_getElem _⟩
    rw [psN_at hp]
    obtain ⟨⟨a, b⟩, c, d⟩ := pOk_iff.1 (List.all_eq_true.1 h4 p (List.mem_of_getElem? hp))
    have hd : p.2 ∣ ((lcL T.ps : Nat) : Int) := by
      have := Int.natCast_dvd_natCast.2 (lc_dvd hp)
      rw [Int.natAbs_of_nonneg (by omega)] at this
      exact this
    have e := Int.mul_ediv_cancel' hd
    refine ⟨a, b, c, d, e, ?_⟩
    rcases Int.lt_or_le 0 (((lcL T.ps : Nat) : Int) / p.2) with h0 | h0
    · omega
    · exfalso
      have h1 : p.2 * (((lcL T.ps : Nat) : Int) / p.2) ≤ p.2 * 0 := Int.mul_le_mul_of_nonneg_left h0 (by omega)
      omega
  · unfold zB woP at h7
    simp only [Bool.and_eq_true, beq_iff_eq] at h7
    have hz : (psN T T.wo.toNat).1 = 0 := by
      obtain ⟨p, hp⟩ : ∃ p, T.ps[T.wo.toNat]? = some p := ⟨T.ps[T.wo.toNat]'(by omega), List.getElem?_eq_getElem _⟩
      rw [psN_at hp]
      have := h7.1
      rw [List.getD_eq_getElem?_getD, hp] at this
      exact this
    unfold qN
    rw [hz, Int.zero_mul]
theorem Vd.q {T : Tm} {D : Int} {wn i : Nat} (h : Vd T D wn) (hi : i < 12) : -(2 * D) ≤ qN T D i ∧ qN T D i ≤ 2 * D := by
  obtain ⟨a, b, c, d, e, f⟩ := h.ps i hi
  unfold qN
  generalize D / (psN T i).2 = k at *
  generalize (psN T i).1 = n at *
  generalize (psN T i).2 = m at *
  have k0 : (0 : Int) ≤ k := by omega
  have h1 := Int.mul_le_mul_of_nonneg_right c k0
  have h2 := Int.mul_le_mul_of_nonneg_right d k0
  have e1 : -2 * m * k = -(2 * D) := by rw [← e]; grind
  have e2 : 2 * m * k = 2 * D := by rw [← e]; grind
  omega
theorem Vd.circ {T : Tm} {D : Int} {wn : Nat} (h : Vd T D wn) : Circ D (fN T D) wn where
  d1 := h.d1
  d2 := h.d2
  w := h.w
  bd := fun _ hi => fvV_bd h.d1 h.d2 (h.q hi)
  bt := fun _ hi => fvV_bt h.d1 (h.q hi)
theorem Vd.fiv {T : Tm} {D : Int} {wn i : Nat} (h : Vd T D wn) (hi : i < 12) : fivR T i = lowR (fN T D i) D := by
  obtain ⟨a, b, c, d, e, f⟩ := h.ps i hi
  have hq := h.q hi
  have hd1 := h.d1
  have hd2 := h.d2
  have cb : (cmV T.sy).bd 100000 := by unfold V6.bd; rcases cmV_cases T.sy with e | e <;> rw [e] <;> simp only <;> omega
  have cq : (V6.scl (qN T D i) (cmV T.sy)).bd 100000 := by unfold V6.bd V6.scl; rcases cmV_cases T.sy with e | e <;> rw [e] <;> simp only <;> omega
  have hp := pow_low (c := cmV T.sy) (n := (psN T i).1) (d := (psN T i).2) (q := D / (psN T i).2) (D := D) a (by omega) (by omega) f e.symm (by omega) cb cq
  unfold fivR
  rw [cmW_low, ← low_one (v := cmV T.sy), hp, of_low D (by omega) of_32]
  show (bothW (lowR (V6.scl D w32) D) (lowR (V6.scl (qN T D i) (cmV T.sy)) D) (-1)).1 = _
  have wb : (V6.scl D w32).bd 100000 := by unfold V6.bd V6.scl w32; simp only; omega
  have fb := (h.circ.bd i hi).mono (show (4680 : Int) ≤ 100000 by omega)
  rw [both_low hd1 (by omega) wb cq fb]
  rfl
theorem Vd.lf {T : Tm} {D : Int} {wn : Nat} (h : Vd T D wn) : ∀ {n : Nat}, n ≤ 12 → lfR T wn n = lowR (LS D (fN T D) wn n) D
  | 0, _ => by
    show (ofW 128 1).1 = lowR (octV (7 * D)) D
    rw [of_low D (by have := h.d1; omega) of_128]
    congr 1
    unfold V6.scl octV
    apply V6.eq <;> simp only <;> grind
  | n + 1, hn => by
    have ih := Vd.lf h (n := n) (by omega)
    have hd2 := h.d2
    by_cases e : n = wn
    · rw [show lfR T wn (n + 1) = lfR T wn n from if_pos e, ih, show LS D (fN T D) wn (n + 1) = LS D (fN T D) wn n from if_pos e]
    · rw [show lfR T wn (n + 1) = (bothW (lfR T wn n) (fivR T n) (-1)).1 from if_neg e, ih, h.fiv (by omega), show LS D (fN T D) wn (n + 1) = (LS D (fN T D) wn n).add (V6.scl (-1) (fN T D n)) from if_neg e]
      have b3 := h.circ.ls_bd hn
      rw [show LS D (fN T D) wn (n + 1) = (LS D (fN T D) wn n).add (V6.scl (-1) (fN T D n)) from if_neg e] at b3
      rw [both_low h.d1 (by omega) ((h.circ.ls_bd (by omega)).mono (by omega)) ((h.circ.bd n (by omega)).mono (by omega)) (b3.mono (by omega))]
theorem fifR_len (T : Tm) (wn : Nat) : (fifR T wn).length = 12 := by unfold fifR; rw [List.length_set, rowR_len]
theorem Vd.fif {T : Tm} {D : Int} {wn i : Nat} (h : Vd T D wn) (hi : i < 12) : (fifR T wn)[i]? = some (lowR (FF D (fN T D) wn i) D) := by
  unfold fifR
  by_cases e : i = wn
  · subst e
    rw [List.getElem?_set_self (by rw [rowR_len]; exact hi), FF_wf, h.lf (Nat.le_refl 12)]
  · rw [List.getElem?_set_ne (fun h => e h.symm), rowR_at hi e hi, FF_ne e, h.fiv hi]
theorem circ_note_step {D : Int} {F : Nat → V6} {wf i : Nat} {r r' : Rt} (h : Circ D F wf) (hi : i < 12) (hn : NoteIs D F wf i r) (hf : FoldIs (bothW r (lowR (FF D F wf i) D) 1).1 r') : NoteIs D F wf (i + 1) r' := by
  obtain ⟨k, hk, e⟩ := h.note_mul hi hn
  rw [e] at hf
  have hd1 := h.d1
  have hd2 := h.d2
  have hb := h.note_bd (i := i + 1) (j := i) (by omega) (by omega) hk
  obtain ⟨m, hm, hr⟩ := hf (lowR_ok hd1 (by omega) (hb.mono (by omega)))
  rw [low_FlIs (by omega), FlIs.shift] at hm
  have e2 : foR (lowR ((PS (FF D F wf) (i + 1)).two (-(k * D))) D) m = lowR ((PS (FF D F wf) (i + 1)).two (-((k + m) * D))) D := by
    unfold foR
    rw [low_fold (by omega), V6.two_two]
    congr 2
    grind
  have hb2 := h.note_bd (i := i + 1) (j := i + 1) (by omega) (by omega) hm
  refine ⟨k + m, hm, ?_⟩
  rw [← e2]
  refine hr ?_
  rw [e2]
  exact (lowR_ok hd1 (by omega) (hb2.mono (by omega))).fit
end Go.Proofs.YtmbcejldifobnaaDoor.Tp

namespace Go.Proofs.YtmbcejldifobnaaDoor.Tp
open Go.RowKit
def NotesL (D : Int) (F : Nat → V6) (wn i : Nat) (N : List Rt) : Prop := N.length = 12 ∧ ∀ j, j < i → ∃ r, N[7 * j % 12]? = some r ∧ NoteIs D F wn j r
def NtRel (w : World) (T : Tm) (D : Int) (wn gl : Nat) (iv : Value) (wr : World) : Prop :=
  ∃ (i : Nat) (note : Rt) (N : List Rt), i ≤ 12 ∧ iv = .int .i64 (i : Int) ∧ NoteIs D (fN T D) wn i note ∧ NotesL D (fN T D) wn i N ∧ RowV wr (w.heap.size + 1) 98 (fl7 zero12) ∧ RowV wr (w.heap.size + 1 + 1) 98 (fl7 N) ∧ RowV wr gl 24 (cellsR note) ∧ Below w.heap.size w wr
theorem NotesL.step {D : Int} {F : Nat → V6} {wn i : Nat} {N : List Rt} {r : Rt} (h : NotesL D F wn i N) (hi : i < 12) (hn : NoteIs D F wn i r) : NotesL D F wn (i + 1) (N.set (7 * i % 12) r) := by
  refine ⟨by rw [List.length_set]; exact h.1, fun j hj => ?_⟩
  by_cases e : j = i
  · subst e
    exact ⟨r, List.getElem?_set_self (by rw [h.1]; omega), hn⟩
  · obtain ⟨s, h1, h2⟩ := h.2 j (by omega)
    refine ⟨s, ?_, h2⟩
    rw [List.getElem?_set_ne (by omega)]
    exact h1
/-- What notesOf returns. -/
def NotesP (w : World) (T : Tm) (D : Int) (wn : Nat) (e : Ending) (w' : World) : Prop := ∃ N, NotesL D (fN T D) wn 12 N ∧ e = .returned (.agg (fl7 N).toArray) ∧ Below w.heap.size w w'
def z7 : Array Value := #[.int .i64 0, .int .i64 0, .int .i64 0, .int .i64 0, .int .i64 0, .int .i64 0, .int .i64 0]
set_option maxRecDepth 100000 in
set_option maxHeartbeats 1000000 in
theorem notesOf_any (T : Tm) (D : Int) (wn : Nat) (w : World) (hp : PrL w) (hl : T.ps.length = 12) (hv : Vd T D wn) : Calls Tryd.prog 60 #[.agg (tmV T).toArray] w (NotesP w T D wn) := by
  have hz := zero65
  have HR0 := Lib.hid (((RowV.of_alloc w 38 (tmV T)).alloc (.cells (fl7 zero12).toArray 98)).alloc (.cells (fl7 zero12).toArray 98))
  have hr1 : RowV ((w.alloc (.cells (tmV T).toArray 38)).alloc (.cells (fl7 zero12).toArray 98)) (w.heap.size + 1) 98 (fl7 zero12) := by
    have h := RowV.of_alloc (w.alloc (.cells (tmV T).toArray 38)) 98 (fl7 zero12)
    simp only [World.size_alloc] at h
    exact h
  have hr2 : RowV (((w.alloc (.cells (tmV T).toArray 38)).alloc (.cells (fl7 zero12).toArray 98)).alloc (.cells (fl7 zero12).toArray 98)) (w.heap.size + 1 + 1) 98 (fl7 zero12) := by
    have h := RowV.of_alloc ((w.alloc (.cells (tmV T).toArray 38)).alloc (.cells (fl7 zero12).toArray 98)) 98 (fl7 zero12)
    simp only [World.size_alloc] at h
    exact h
  have HR1 := Lib.hid (hr1.alloc (.cells (fl7 zero12).toArray 98))
  have HR2 := Lib.hid hr2
  have HB := Lib.hid (((belB w (.cells (tmV T).toArray 38)).alloc (by simp) (.cells (fl7 zero12).toArray 98)).alloc (by simp; omega) (.cells (fl7 zero12).toArray 98))
  have HI2 := Lib.hid (szT hl)
  have HP := Lib.hid hp
  have hra := fun W (h : PrL W) => ratio_any 1 1 W h
  have hn0 : (ofW 1 1).1 = lowR (octV 0) D := by
    rw [of_low D (by have := hv.d1; omega) of_11]; congr 1; unfold V6.scl octV; simp
  rw [hn0] at hra
  have HN0 := Lib.hid (hv.circ.note_zero)
  have HST := Lib.hid (fun i r r' (hi : i < 12) (hn : NoteIs D (fN T D) wn i r) (hf : FoldIs (bothW r (lowR (FF D (fN T D) wn i) D) 1).1 r') => circ_note_step hv.circ hi hn hf)
  have HFI := Lib.hid (fun i (hi : i < 12) => hv.fif hi)
  have HIX := Lib.hid (fun i r (h : (fifR T wn)[i]? = some r) W => idx7 (fifR_len T wn) h W)
  have HFF := Lib.hid (fun W (h : PrL W) => fifthsOf_any T wn W h hl hv.wo hv.w)
  have HRA := Lib.hid hra
  generalize lowR (octV 0) D = note0 at *
  clear hr1 hr2 hp hl hra hn0 hv
  go_enter Tryd.func60, Tryd.ntmps60
  go_wp2_with fail
  refine (HRA.out _ (HP.out.below (HB.out.mono (Nat.le_refl _)))).mono ?_
  rintro e w1 ⟨he, hb1⟩
  subst he
  have hr0 := HR0.out.up (hb1.mono (by simp))
  have hr1 := HR1.out.up (hb1.mono (by simp))
  have hr2 := HR2.out.up (hb1.mono (by simp))
  have hb := HB.out.trans (hb1.mono (by simp; omega))
  have hz1 := HR2.out.lt
  have hsz := hb1.size
  obtain ⟨wl, hwl⟩ : ∃ wl, wl = (w1.alloc (.cells #[.int .i64 0, .int .i64 0, .int .i64 0, .int .i64 0, .int .i64 0, .int .i64 0, .int .i64 0] 24)).setCells w1.heap.size 0 (cellsR note0).toArray.toList := ⟨_, rfl⟩
  have hth : (w1.alloc (.cells #[.int .i64 0, .int .i64 0, .int .i64 0, .int .i64 0, .int .i64 0, .int .i64 0, .int .i64 0] 24)).there w1.heap.size 0 (cellsR note0).toArray.size := (RowV.of_alloc w1 24 (cellsR Rt.zero)).there (by show 0 + 7 ≤ 7; omega)
  have hrl : RowV wl w1.heap.size 24 (cellsR note0) := by
    have h := (RowV.of_alloc w1 24 (cellsR Rt.zero)).setCells (cellsR note0) 0 _ _ (by show 0 + 7 ≤ 7; omega)
    rw [hwl]
    exact h
  have hbl : Below w.heap.size w wl := by
    rw [hwl]
    exact below_setCells _ _ _ (hb.alloc hb.size _) hb.size
  have hsz1 : w.heap.size + 1 + 1 < w1.heap.size := Nat.lt_of_lt_of_le hz1 hsz
  have hl0 : RowV wl w.heap.size 38 (tmV T) := by rw [hwl]; exact RowV.otherCells (Nat.ne_of_lt (by omega)) _ _ _ (hr0.alloc _)
  have hl1 : RowV wl (w.heap.size + 1) 98 (fl7 zero12) := by rw [hwl]; exact RowV.otherCells (Nat.ne_of_lt (by omega)) _ _ _ (hr1.alloc _)
  have hl2 : RowV wl (w.heap.size + 1 + 1) 98 (fl7 zero12) := by rw [hwl]; exact RowV.otherCells (Nat.ne_of_lt (by omega)) _ _ _ (hr2.alloc _)
  have HTH := Lib.hid hth
  have HL0 := Lib.hid hl0
  have HL1 := Lib.hid hl1
  have HL2 := Lib.hid hl2
  have HRL := Lib.hid hrl
  have HBL := Lib.hid hbl
  have HWL := Lib.hid hwl
  have HSR := Lib.hid (szR note0)
  clear hth hrl hl0 hl1 hl2 hbl hwl hr0 hr1 hr2 hb hb1 hz1 hsz HR0 HR1 HR2 HB
  go_wp2_with (first | (refine wpList_store_mid rfl 24 _ _ rfl w1.heap.size 0 (cellsR note0).toArray rfl rfl HTH.out HSR.out (oneR _) ?_; rw [← HWL.out]) | (refine wpList_load_mid rfl 38 _ rfl w.heap.size 0 rfl (tmV T) _ HL0.out.all Tryd.underlying38 rfl HI2.out ?_))
  refine (HFF.out _ (HP.out.below HBL.out)).mono ?_
  rintro e w2 ⟨he, hb2⟩
  subst he
  obtain ⟨gl, hgl⟩ : ∃ gl, gl = w1.heap.size := ⟨_, rfl⟩
  rw [← hgl] at HRL hsz1
  rw [← hgl]
  have k1 := HL1.out.up hb2
  have k2 := HL2.out.up hb2
  have k3 := HRL.out.up hb2
  have kb := HBL.out.trans (hb2.mono HBL.out.size)
  have K1 := Lib.hid k1
  have K2 := Lib.hid k2
  have K3 := Lib.hid k3
  have KB := Lib.hid kb
  clear hgl HTH HWL HSR HRA HFF HL0 HL1 HL2 HRL HBL k1 k2 k3 kb hb2 HI2
  go_wp2_with fail
  go_loopw [10] (fun iv wr => NtRel w T D wn gl iv wr) (fun iv _ => 12 - (intOf iv).toNat)
  case atStart => exact ⟨0, note0, zero12, Nat.zero_le _, rfl, HN0.out, ⟨rfl, fun j hj => by omega⟩, K1.out, K2.out, K3.out, KB.out⟩
  case round =>
    clear K1 K2 K3 KB HN0
    obtain ⟨i, note, N, hi, rfl, hnt, hN, h1, h2, h3, hb⟩ := hrel
    have HNT := Lib.hid hnt
    have HNL := Lib.hid hN
    have H1 := Lib.hid h1
    have H2 := Lib.hid h2
    have H3 := Lib.hid h3
    have HB := Lib.hid hb
    clear hnt hN h1 h2 h3 hb
    by_cases hil : i < 12
    · have hfi := HFI.out i hil
      have hix := fun W => HIX.out i _ hfi W
      clear hfi
      obtain ⟨fr, hfr⟩ : ∃ fr, fr = lowR (FF D (fN T D) wn i) D := ⟨_, rfl⟩
      rw [← hfr] at hix
      unfold cR cellsR at hix
      obtain ⟨m, hm⟩ : ∃ m, m = 7 * i % 12 := ⟨_, rfl⟩
      have hmI : 7 * (i : Int) % 12 = (m : Int) := by omega
      have hmT : (7 * (i : Int)).tmod 12 = (m : Int) := by rw [Int.tmod_eq_emod_of_nonneg (by omega)]; exact hmI
      have hmlt : (m : Int) < 12 := by omega
      have hilI : (i : Int) < 12 := by omega
      have hszr := HB.out.size
      have h2lt := H2.out.lt
      have h3lt := H3.out.lt
      obtain ⟨W, hW⟩ : ∃ W, W = wr.alloc (.cells #[.int .i64 fr.v.a, .int .i64 fr.v.b, .int .i64 fr.v.c, .int .i64 fr.v.d, .int .i64 fr.v.e, .int .i64 fr.v.f, .int .i64 fr.d] 24) := ⟨_, rfl⟩
      have ha1 : RowV W (w.heap.size + 1) 98 (fl7 zero12) := by rw [hW]; exact H1.out.alloc _
      have ha2 : RowV W (w.heap.size + 1 + 1) 98 (fl7 N) := by rw [hW]; exact H2.out.alloc _
      have ha3 : RowV W gl 24 (cellsR note) := by rw [hW]; exact H3.out.alloc _
      have hap : RowV W wr.heap.size 24 (cellsR fr) := by rw [hW]; exact RowV.of_alloc wr 24 (cellsR fr)
      have hab : Below w.heap.size w W := by rw [hW]; exact HB.out.alloc HB.out.size _
      obtain ⟨W1, hW1⟩ : ∃ W1, W1 = W.setCells (w.heap.size + 1 + 1) (m * 7) (cellsR note).toArray.toList := ⟨_, rfl⟩
      have hth1 : W.there (w.heap.size + 1 + 1) (m * 7) (cellsR note).toArray.size := ha2.there (by rw [fl7_len, HNL.out.1]; show m * 7 + 7 ≤ _; omega)
      have hb1 : RowV W1 (w.heap.size + 1) 98 (fl7 zero12) := by rw [hW1]; exact RowV.otherCells (Nat.ne_of_lt (by omega)) _ _ _ ha1
      have hb2 : RowV W1 (w.heap.size + 1 + 1) 98 (fl7 (N.set m note)) := by rw [hW1]; exact ha2.put7 note (by rw [HNL.out.1]; omega)
      have hb3 : RowV W1 gl 24 (cellsR note) := by rw [hW1]; exact RowV.otherCells (Nat.ne_of_gt (by omega)) _ _ _ ha3
      have hbp : RowV W1 wr.heap.size 24 (cellsR fr) := by rw [hW1]; exact RowV.otherCells (Nat.ne_of_gt (by omega)) _ _ _ hap
      have hbb : Below w.heap.size w W1 := by rw [hW1]; exact below_setCells _ _ _ hab (by omega)
      have hNm := HNL.out.step hil HNT.out
      rw [← hm] at hNm
      have hab2 := hab
      rw [hW] at ha3 hth1 hW1
      have A3 := Lib.hid ha3.all
      have TH1 := Lib.hid hth1
      have B1 := Lib.hid hb1
      have B2 := Lib.hid hb2
      have B3 := Lib.hid hb3
      have BP := Lib.hid hbp
      have BB := Lib.hid hbb
      have HW1 := Lib.hid hW1
      have HFR := Lib.hid hfr
      have HNM := Lib.hid hNm
      clear ha1 ha2 ha3 hap hab hab2 hth1 hb1 hb2 hb3 hbp hbb hW hW1 hfr hNm hm H1 H2 H3 HB
      go_wp2_with (first | (refine wpList_load_mid rfl 24 _ rfl gl 0 rfl (cellsR note) _ A3.out Tryd.underlying24 rfl (szR _) ?_) | (refine wpList_store_mid rfl 24 _ _ rfl (w.heap.size + 1 + 1) (m * 7) (cellsR note).toArray rfl rfl TH1.out (szR _) (oneR _) ?_; rw [← HW1.out]) | (refine wpList_load_mid rfl 24 _ rfl gl 0 rfl (cellsR note) _ B3.out.all Tryd.underlying24 rfl (szR _) ?_) | (refine wpList_load_mid rfl 24 _ rfl wr.heap.size 0 rfl (cellsR fr) _ BP.out.all Tryd.underlying24 rfl (szR _) ?_))
      refine (mulR note fr _).mono ?_
      rintro e w3 ⟨he, hb3⟩
      subst he
      have hpw := HP.out.below (BB.out.trans (hb3.mono BB.out.size))
      have c1 := B1.out.up hb3
      have c2 := B2.out.up hb3
      have c3 := B3.out.up hb3
      have cb := BB.out.trans (hb3.mono BB.out.size)
      have hpo := Lib.hid hpw
      clear hpw B1 B2 B3 BB BP hb3 A3 TH1 HW1
      obtain ⟨x, hx⟩ : ∃ x, x = (bothW note fr 1).1 := ⟨_, rfl⟩
      rw [← hx]
      have HXE := Lib.hid hx
      have C1 := Lib.hid c1
      have C2 := Lib.hid c2
      have C3 := Lib.hid c3
      have CB := Lib.hid cb
      clear hx c1 c2 c3 cb
      go_wp2_with fail
      refine (foldR x _ hpo.out).mono ?_
      rintro e w4 ⟨r, hf, he, hb4⟩
      subst he
      have hf2 := hf
      rw [HXE.out, HFR.out] at hf2
      have hnt2 := HST.out i note r hil HNT.out hf2
      have c1 := C1.out.up hb4
      have c2 := C2.out.up hb4
      have c3 := C3.out.up hb4
      have cb := CB.out.trans (hb4.mono CB.out.size)
      have hth4 : w4.there gl 0 (cellsR r).toArray.size := c3.there (by show 0 + 7 ≤ 7; omega)
      have D1 := Lib.hid c1
      have D2 := Lib.hid c2
      have D3 := Lib.hid c3
      have DB := Lib.hid cb
      have TH4 := Lib.hid hth4
      have HNT2 := Lib.hid hnt2
      clear hf hf2 hnt2 c1 c2 c3 cb hth4 hb4 C1 C2 C3 CB hpo HXE HFR HNT
      go_wp2_with (((show wpList _ _ _ (⟨_, .store _ _ _, _, _, _, _⟩ :: _) _ _); refine wpList_store_mid rfl 24 _ _ rfl gl 0 (cellsR r).toArray rfl rfl TH4.out (szR _) (oneR _) ?_))
      refine ⟨⟨i + 1, r, N.set m note, by omega, by go_num, HNT2.out, HNM.out, RowV.otherCells (Nat.ne_of_lt (by omega)) _ _ _ D1.out, RowV.otherCells (Nat.ne_of_lt (by omega)) _ _ _ D2.out, D3.out.setCells (cellsR r) 0 _ _ (by show 0 + 7 ≤ 7; omega), below_setCells _ _ _ DB.out (by omega)⟩, by simp [intOf]; omega⟩
    · obtain rfl : i = 12 := by omega
      have h2lt := H2.out.lt
      have hnl := HNL.out.1
      have hth2 : wr.there (w.heap.size + 1) 0 (fl7 N).toArray.size := H1.out.there (by rw [List.size_toArray, fl7_len, fl7_len, hnl]; show _ ≤ 7 * 12; omega)
      have hr4 : RowV (wr.setCells (w.heap.size + 1) 0 (fl7 N)) (w.heap.size + 1) 98 (fl7 N) := by
        have h := H1.out.setCells (fl7 N) 0 _ _ (by rw [fl7_len, fl7_len, hnl]; show _ ≤ 7 * 12; omega)
        have e : (fl7 zero12).take 0 ++ fl7 N ++ (fl7 zero12).drop (0 + (fl7 N).length) = fl7 N := by
          rw [List.drop_eq_nil_of_le (by rw [fl7_len, fl7_len, hnl]; show 7 * 12 ≤ _; omega)]
          simp
        rw [e] at h
        exact h
      have HTH2 := Lib.hid hth2
      have HSZ := Lib.hid (sz65 hnl)
      have HR4 := Lib.hid hr4
      clear hth2 hr4 hnl
      go_wp2_with (first | (refine wpList_load_mid rfl 98 _ rfl (w.heap.size + 1 + 1) 0 rfl (fl7 N) _ H2.out.all Tryd.underlying98 rfl HSZ.out ?_) | (refine wpList_store_mid rfl 98 _ _ rfl (w.heap.size + 1) 0 (fl7 N).toArray rfl rfl HTH2.out HSZ.out (one65 _) ?_))
      exact bodyPost_ret (v := .agg (fl7 N).toArray) (results_cell rfl rfl (run_loadVar_mid _ _ 0 _ _ _ HR4.out.all Tryd.underlying98 rfl HSZ.out)) rfl ⟨N, HNL.out, rfl, below_setCells _ _ _ HB.out (by omega)⟩
end Go.Proofs.YtmbcejldifobnaaDoor.Tp

namespace Go.Proofs.YtmbcejldifobnaaDoor.Tp
open Go.RowKit
theorem NotesL.at {D : Int} {F : Nat → V6} {wn c : Nat} {N : List Rt} (h : NotesL D F wn 12 N) (hc : c < 12) : ∃ r, N[c]? = some r ∧ NoteIs D F wn (7 * c % 12) r := by
  obtain ⟨r, h1, h2⟩ := h.2 (7 * c % 12) (by omega)
  rw [show 7 * (7 * c % 12) % 12 = c by omega] at h1
  exact ⟨r, h1, h2⟩
theorem CentIs.bd {r : Rt} {m : Int} (hr : r.Ok) (h : CentIs r m) : -1000000000000 ≤ m ∧ m ≤ 1000000000000 := by
  obtain ⟨b, er, h | h⟩ := h hr
  · exact ⟨h.2.2.2.1, h.2.2.2.2⟩
  · have := h.2.1; omega
end Go.Proofs.YtmbcejldifobnaaDoor.Tp

namespace Go.Proofs.YtmbcejldifobnaaDoor.Tp
open Go.RowKit
theorem fl2_set : ∀ {ps : List (Int × Int)} {i : Nat} {n d0 : Int} (d : Int), ps[i]? = some (n, d0) → (fl2 ps).set (i * 2 + 1) (.int .i64 d) = fl2 (ps.set i (n, d))
  | [], _, _, _, _, h => by cases h
  | p :: r, 0, n, d0, d, h => by cases h; rfl
  | p :: r, i + 1, n, d0, d, h => by
    have ih := fl2_set (ps := r) (i := i) d h
    show (.int .i64 p.1 :: .int .i64 p.2 :: fl2 r).set ((i + 1) * 2 + 1) _ = .int .i64 p.1 :: .int .i64 p.2 :: fl2 (r.set i (n, d))
    rw [show (i + 1) * 2 + 1 = (i * 2 + 1) + 1 + 1 by omega, List.set_cons_succ, List.set_cons_succ, ih]
theorem fl2_set0 : ∀ {ps : List (Int × Int)} {i : Nat} {n0 d : Int} (n : Int), ps[i]? = some (n0, d) → (fl2 ps).set (i * 2) (.int .i64 n) = fl2 (ps.set i (n, d))
  | [], _, _, _, _, h => by cases h
  | p :: r, 0, n0, d, n, h => by cases h; rfl
  | p :: r, i + 1, n0, d, n, h => by
    have ih := fl2_set0 (ps := r) (i := i) n h
    show (.int .i64 p.1 :: .int .i64 p.2 :: fl2 r).set ((i + 1) * 2) _ = .int .i64 p.1 :: .int .i64 p.2 :: fl2 (r.set i (n, d))
    rw [show (i + 1) * 2 = (i * 2) + 1 + 1 by omega, List.set_cons_succ, List.set_cons_succ, ih]
def onesP (i : Nat) : List (Int × Int) := List.replicate i (0, 1) ++ List.replicate (12 - i) (0, 0)
theorem onesP_len {i : Nat} (h : i ≤ 12) : (onesP i).length = 12 := by simp [onesP]; omega
theorem onesP_at {i : Nat} (h : i < 12) : (onesP i)[i]? = some (0, 0) := by
  unfold onesP
  rw [List.getElem?_append_right (by simp), List.length_replicate, Nat.sub_self, List.getElem?_replicate]
  simp; omega
theorem onesP_set {i : Nat} (h : i < 12) : (onesP i).set i (0, 1) = onesP (i + 1) := by
  unfold onesP
  rw [List.set_append_right _ _ (by simp), List.length_replicate, Nat.sub_self, show 12 - i = (12 - (i + 1)) + 1 by omega, List.replicate_succ, List.set_cons_zero, List.replicate_succ', List.append_assoc]
  rfl
def narP (den : Int) (L : List Nat) : List (Int × Int) := L.foldl (fun ps i => ps.set i (1, den)) (onesP 12)
theorem narP_len (den : Int) (L : List Nat) : (narP den L).length = 12 := by
  unfold narP
  have : ∀ (L : List Nat) (ps : List (Int × Int)), (L.foldl (fun ps i => ps.set i (1, den)) ps).length = ps.length := by
    intro L
    induction L with
    | nil => intro ps; rfl
    | cons a r ih => intro ps; show (r.foldl _ (ps.set a (1, den))).length = _; rw [ih, List.length_set]
  rw [this, onesP_len (Nat.le_refl 12)]
theorem narP_take {den : Int} {L : List Nat} {j x : Nat} (h : L[j]? = some x) : narP den (L.take (j + 1)) = (narP den (L.take j)).set x (1, den) := by
  unfold narP
  rw [List.take_add_one, h, List.foldl_append]
  rfl
theorem one2 (ps : List (Int × Int)) : (fl2 ps).toArray.all (·.oneCell') = true := all_oneCell_toArray fun v hv => by
  obtain ⟨r, _, hr⟩ := List.mem_flatMap.1 hv
  simp only [List.mem_cons, List.not_mem_nil, or_false] at hr
  rcases hr with h | h <;> subst h <;> rfl
end Go.Proofs.YtmbcejldifobnaaDoor.Tp

namespace Go.Proofs.YtmbcejldifobnaaDoor.Tp
open Go.RowKit
theorem results_cell_tmp {P : Program} {fn : Func} {tmps : Array Value} {w : World} {a b : Nat} {t : TypeId} {A : Addr} {v : Value} (hf : fn.results = #[.cell a t, .tmp b]) (ha : tmps.getD a undef = .pointer (some A)) (hl : (loadVar t A).run P w = .ok v w) : (results fn tmps).run P w = .ok (.tuple #[v, tmps.getD b undef]) w := by
  unfold results
  rw [hf]
  have ha2 : tmps[a]?.getD undef = .pointer (some A) := by rw [← ha, Array.getD_eq_getD_getElem?]
  simp [ha2, asAddr, Sem.run_bind, hl]
theorem oneT (T : Tm) : (tmV T).toArray.all (·.oneCell') = true := all_oneCell_toArray fun v hv => by
  simp only [tmV, List.mem_cons] at hv
  rcases hv with h | h | h | h
  · subst h; rfl
  · subst h; rfl
  · subst h; rfl
  · have := Array.all_eq_true_iff_forall_mem.1 (one2 T.ps) v (by simpa using h)
    exact this
theorem wpList_built {P : Program} {ops : Array Oper} {rest : List Oper} {o : Oper} {a : Act} {w : World} {Q : Exit → Act → World → Prop} (hg : o.guard = none) (t : TypeId) (parts : Array (Nat × Operand)) (ho : o.op = .build t parts) (C : Array Value)
    (LL : List (Nat × Value)) (he : (parts.map fun (i, x) => (i, a.eval x)).toList = LL) (hb' : P.built t LL = some C) (h : wpList P ops Q rest (a.put o.dst (.agg C)) w) : wpList P ops Q (o :: rest) a w :=
  have hb := (congrArg (P.built t) he).trans hb'
  wpList_build hg t parts ho (by rw [hb]; rfl) (by rw [hb]; exact h)
def tm0 : Tm := ⟨⟨#[]⟩, false, 0, onesP 0⟩
def std0 : Tm := ⟨⟨#[101, 113, 117, 97, 108]⟩, false, 11, [(1, 12), (1, 12), (1, 12), (1, 12), (1, 12), (1, 12), (1, 12), (1, 12), (1, 12), (1, 12), (1, 12), (0, 1)]⟩
set_option maxRecDepth 100000 in
theorem zero26 (w : World) : (zeroValue 38).run Tryd.prog w = .ok (.agg (tmV tm0).toArray) w := (zero_of_info (n := 27) (by kernel_rfl)).1 w
end Go.Proofs.YtmbcejldifobnaaDoor.Tp
