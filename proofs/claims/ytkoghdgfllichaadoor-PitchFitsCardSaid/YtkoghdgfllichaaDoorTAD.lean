import Derived.Test.YtkoghdgfllichaaDoorTAC
namespace Go.Proofs.YtkoghdgfllichaaDoor.Tp
open Go.RowKit

theorem fl2_set : ∀ {ps : List (Int × Int)} {i : Nat} {n d0 : Int} (d : Int), ps[i]? = some (n, d0) → (fl2 ps).set (i * 2 + 1) (.int .i64 d) = fl2 (ps.set i (n, d))
  | [], _, _, _, _, h => by cases h
  | p :: r, 0, n, d0, d, h => by cases h; rfl
  | p :: r, i + 1, n, d0, d, h => by
    have ih := fl2_set (ps := r) (i := i) d h
    show (.int .i64 p.1 :: .int .i64 p.2 :: fl2 r).set ((i + 1) * 2 + 1) _ = .int .i64 p.1 :: .int .i64 p.2 :: fl2 (r.set i (n, d))
    rw [show (i + 1) * 2 + 1 = (i * 2 + 1) + 1 + 1 by omega, List.set_cons_succ, List.set_cons_succ, ih]
theorem fl2_set0 : ∀ {ps : List (Int × Int)} {i : Nat} {n0 d : Int} (n : Int), ps[i]? = some (n0, d) → (fl2 ps).set (i * 2) (.int .i64 n) = fl2 (ps.set i (n, d))
  | [], _, _, _, _, h => by cases h
  | p :: r, 0, n0, d, n, h => by cases h; rfl
  | p :: r, i + 1, n0, d, n, h => by
    have ih := fl2_set0 (ps := r) (i := i) n h
    show (.int .i64 p.1 :: .int .i64 p.2 :: fl2 r).set ((i + 1) * 2) _ = .int .i64 p.1 :: .int .i64 p.2 :: fl2 (r.set i (n, d))
    rw [show (i + 1) * 2 = (i * 2) + 1 + 1 by omega, List.set_cons_succ, List.set_cons_succ, ih]
def onesP (i : Nat) : List (Int × Int) := List.replicate i (0, 1) ++ List.replicate (12 - i) (0, 0)
theorem onesP_len {i : Nat} (h : i ≤ 12) : (onesP i).length = 12 := by simp [onesP]; omega
theorem onesP_at {i : Nat} (h : i < 12) : (onesP i)[i]? = some (0, 0) := by
  unfold onesP
  rw [List.getElem?_append_right (by simp), List.length_replicate, Nat.sub_self, List.getElem?_replicate]
  simp; omega
theorem onesP_set {i : Nat} (h : i < 12) : (onesP i).set i (0, 1) = onesP (i + 1) := by
  unfold onesP
  rw [List.set_append_right _ _ (by simp), List.length_replicate, Nat.sub_self, show 12 - i = (12 - (i + 1)) + 1 by omega, List.replicate_succ, List.set_cons_zero, List.replicate_succ', List.append_assoc]
  rfl
def narP (den : Int) (L : List Nat) : List (Int × Int) := L.foldl (fun ps i => ps.set i (1, den)) (onesP 12)
theorem narP_len (den : Int) (L : List Nat) : (narP den L).length = 12 := by
  unfold narP
  have : ∀ (L : List Nat) (ps : List (Int × Int)), (L.foldl (fun ps i => ps.set i (1, den)) ps).length = ps.length := by
    intro L
    induction L with
    | nil => intro ps; rfl
    | cons a r ih => intro ps; show (r.foldl _ (ps.set a (1, den))).length = _; rw [ih, List.length_set]
  rw [this, onesP_len (Nat.le_refl 12)]
theorem narP_take {den : Int} {L : List Nat} {j x : Nat} (h : L[j]? = some x) : narP den (L.take (j + 1)) = (narP den (L.take j)).set x (1, den) := by
  unfold narP
  rw [List.take_add_one, h, List.foldl_append]
  rfl
theorem one2 (ps : List (Int × Int)) : (fl2 ps).toArray.all (·.oneCell') = true := all_oneCell_toArray fun v hv => by
  obtain ⟨r, _, hr⟩ := List.mem_flatMap.1 hv
  simp only [List.mem_cons, List.not_mem_nil, or_false] at hr
  rcases hr with h | h <;> subst h <;> rfl
def NaRel (w : World) (iv : Value) (wr : World) : Prop := ∃ i : Nat, i ≤ 12 ∧ iv = .int .i64 (i : Int) ∧ RowV wr w.heap.size 36 (fl2 (onesP 0)) ∧ RowV wr (w.heap.size + 1) 36 (fl2 (onesP i)) ∧ Below w.heap.size w wr
def NbRel (w : World) (den : Int) (L : List Nat) (iv : Value) (wr : World) : Prop := ∃ j : Nat, j ≤ L.length ∧ iv = .int .i64 (j : Int) ∧ RowV wr w.heap.size 36 (fl2 (onesP 0)) ∧ RowV wr (w.heap.size + 1) 36 (fl2 (narP den (L.take j))) ∧ Below w.heap.size w wr
set_option maxRecDepth 100000 in
set_option maxHeartbeats 1000000 in
theorem narrow_any (den : Int) (L : List Nat) (A : Option Addr) (cap : Nat) (w : World) (hL : L.length ≤ 12) (h12 : ∀ x ∈ L, x < 12)
    (hA : ∀ j x : Nat, L[j]? = some x → ∃ g, A = some ⟨g, 0, none⟩ ∧ g < w.heap.size ∧ w.cell? ⟨g, j, none⟩ = some (.int .i64 (x : Int))) :
    Calls Tryd.prog 123 #[.int .i64 den, .slice A L.length cap] w fun e w' => e = .returned (.agg (fl2 (narP den L)).toArray) ∧ Below w.heap.size w w' := by
  have hr0 : RowV ((w.alloc (.cells (fl2 (onesP 0)).toArray 36)).alloc (.cells (fl2 (onesP 0)).toArray 36)) w.heap.size 36 (fl2 (onesP 0)) := (RowV.of_alloc w 36 (fl2 (onesP 0))).alloc _
  have hr1 : RowV ((w.alloc (.cells (fl2 (onesP 0)).toArray 36)).alloc (.cells (fl2 (onesP 0)).toArray 36)) (w.heap.size + 1) 36 (fl2 (onesP 0)) := by
    have h := RowV.of_alloc (w.alloc (.cells (fl2 (onesP 0)).toArray 36)) 36 (fl2 (onesP 0))
    rw [World.size_alloc] at h
    exact h
  have hb : Below w.heap.size w ((w.alloc (.cells (fl2 (onesP 0)).toArray 36)).alloc (.cells (fl2 (onesP 0)).toArray 36)) := (belB w _).alloc (by simp) _
  have HR0 := Lib.hid hr0
  have HR1 := Lib.hid hr1
  have HB := Lib.hid hb
  have HLL := Lib.hid hL
  have H12 := Lib.hid h12
  have HAA := Lib.hid hA
  have hLI : (L.length : Int) ≤ 12 := by omega
  clear hr0 hr1 hb hL h12 hA
  go_enter Tryd.func123, Tryd.ntmps123
  go_wp2
  go_loopw [9] (fun iv wr => NaRel w iv wr) (fun iv _ => 12 - (intOf iv).toNat)
  case atStart => exact ⟨0, Nat.zero_le _, rfl, HR0.out, HR1.out, HB.out⟩
  case round =>
    clear HR0 HR1 HB
    obtain ⟨i, hi, rfl, h0, h1, hb⟩ := hrel
    have H0 := Lib.hid h0
    have H1 := Lib.hid h1
    have HB := Lib.hid hb
    clear h0 h1 hb
    by_cases hil : i < 12
    · have hilI : (i : Int) < 12 := by omega
      obtain ⟨f1, f2⟩ := fl2_at (onesP_at hil)
      have c1 : wr.cell? ⟨w.heap.size + 1, i * 2 + 1, none⟩ = some (.int .i64 0) := H1.out.cell (by rw [show i * 2 + 1 = 2 * i + 1 by omega]; exact f2)
      have fz : wr.frozen? ⟨w.heap.size + 1, i * 2 + 1, none⟩ = false := by
        have e : wr.heap[w.heap.size + 1]? = some (.cells (fl2 (onesP i)).toArray 36 (0, 0)) := H1.out
        unfold World.frozen?
        simp only [e]
        rfl
      clear f1 f2
      go_wp2
      refine ⟨⟨i + 1, by omega, by go_num, ?_, ?_, HB.out.setCell (show w.heap.size ≤ w.heap.size + 1 by omega) _⟩, by simp [intOf]; omega⟩
      · exact (setCell_heap (Nat.ne_of_lt (by omega))).trans H0.out
      · have h := H1.out.setCell (i * 2 + 1) (.int .i64 1)
        rw [fl2_set 1 (onesP_at hil), onesP_set hil] at h
        exact h
    · obtain rfl : i = 12 := by omega
      go_wp2
      go_loopw [18] (fun iv wr => NbRel w den L iv wr) (fun iv _ => L.length - (intOf iv).toNat)
      case atStart => exact ⟨0, Nat.zero_le _, rfl, H0.out, H1.out, HB.out⟩
      case round =>
        clear H0 H1 HB
        obtain ⟨j, hj, rfl, h0, h1, hb⟩ := hrel
        have H0 := Lib.hid h0
        have H1 := Lib.hid h1
        have HB := Lib.hid hb
        clear h0 h1 hb
        by_cases hjl : j < L.length
        · obtain ⟨x, hx⟩ : ∃ x, L[j]? = some x := ⟨L[j], List.getElem?_eq_getElem _⟩
          have hx12 := H12.out x (List.mem_of_getElem? hx)
          obtain ⟨g, rfl, hg, hc⟩ := HAA.out j x hx
          have hxI : (x : Int) < 12 := by omega
          have hc2 : wr.cell? ⟨g, j, none⟩ = some (.int .i64 (x : Int)) := by rw [HB.out.cell (p := ⟨g, j, none⟩) hg]; exact hc
          obtain ⟨⟨n0, d0⟩, hp⟩ : ∃ p, (narP den (L.take j))[x]? = some p := ⟨(narP den (L.take j))[x]'(by rw [narP_len]; exact hx12), List.getElem?_eq_getElem _⟩
          obtain ⟨f1, f2⟩ := fl2_at hp
          have c1 : wr.cell? ⟨w.heap.size + 1, x * 2, none⟩ = some (.int .i64 n0) := H1.out.cell (by rw [show x * 2 = 2 * x by omega]; exact f1)
          have c2 : wr.cell? ⟨w.heap.size + 1, x * 2 + 1, none⟩ = some (.int .i64 d0) := H1.out.cell (by rw [show x * 2 + 1 = 2 * x + 1 by omega]; exact f2)
          have e : wr.heap[w.heap.size + 1]? = some (.cells (fl2 (narP den (L.take j))).toArray 36 (0, 0)) := H1.out
          have fz1 : wr.frozen? ⟨w.heap.size + 1, x * 2 + 1, none⟩ = false := by unfold World.frozen?; simp only [e]; rfl
          have fz0 : wr.frozen? ⟨w.heap.size + 1, x * 2, none⟩ = false := by unfold World.frozen?; simp only [e]; rfl
          have hjI : (j : Int) < (L.length : Int) := by omega
          have HXX := Lib.hid hx
          have HPP := Lib.hid hp
          clear f1 f2 e hx hp hc
          go_wp2
          refine ⟨⟨j + 1, by omega, by go_num, ?_, ?_, (HB.out.setCell (show w.heap.size ≤ w.heap.size + 1 by omega) _).setCell (show w.heap.size ≤ w.heap.size + 1 by omega) _⟩, by simp [intOf]; omega⟩
          · exact (setCell_heap (Nat.ne_of_lt (by omega))).trans ((setCell_heap (Nat.ne_of_lt (by omega))).trans H0.out)
          · have h := (H1.out.setCell (x * 2) (.int .i64 1)).setCell (x * 2 + 1) (.int .i64 den)
            rw [fl2_set0 1 HPP.out] at h
            rw [fl2_set (n := 1) (d0 := d0) den (List.getElem?_set_self (by rw [narP_len]; exact hx12)), List.set_set, ← narP_take HXX.out] at h
            exact h
        · obtain rfl : j = L.length := by omega
          have h1 := H1.out
          rw [List.take_length] at h1
          have hsz := sz2 (narP_len den L)
          have hth : wr.there w.heap.size 0 (fl2 (narP den L)).toArray.size := H0.out.there (by rw [List.size_toArray, fl2_len, fl2_len, narP_len]; show _ ≤ 2 * 12; omega)
          have hr4 : RowV (wr.setCells w.heap.size 0 (fl2 (narP den L))) w.heap.size 36 (fl2 (narP den L)) := by
            have h := H0.out.setCells (fl2 (narP den L)) 0 _ _ (by rw [fl2_len, fl2_len, narP_len]; show _ ≤ 2 * 12; omega)
            have e : (fl2 (onesP 0)).take 0 ++ fl2 (narP den L) ++ (fl2 (onesP 0)).drop (0 + (fl2 (narP den L)).length) = fl2 (narP den L) := by
              rw [List.drop_eq_nil_of_le (by rw [fl2_len, fl2_len, narP_len]; show 2 * 12 ≤ _; omega)]
              simp
            rw [e] at h
            exact h
          have hone : (fl2 (narP den L)).toArray.all (·.oneCell') = true := one2 _
          have H1A := Lib.hid h1.all
          have HSZ := Lib.hid hsz
          have HTH := Lib.hid hth
          have HR4 := Lib.hid hr4
          have HON := Lib.hid hone
          clear h1 hsz hth hr4 hone H1
          go_wp2_with (first | ((show wpList _ _ _ (⟨_, .load _ _, _, _, _, _⟩ :: _) _ _); refine wpList_load_mid rfl 36 _ rfl (w.heap.size + 1) 0 rfl (fl2 (narP den L)) _ H1A.out Tryd.underlying36 rfl HSZ.out ?_) | ((show wpList _ _ _ (⟨_, .store _ _ _, _, _, _, _⟩ :: _) _ _); refine wpList_store_mid rfl 36 _ _ rfl w.heap.size 0 (fl2 (narP den L)).toArray rfl rfl HTH.out HSZ.out HON.out ?_))
          exact bodyPost_ret (v := .agg (fl2 (narP den L)).toArray) (results_cell rfl rfl (run_loadVar_mid _ _ 0 _ _ _ HR4.out.all Tryd.underlying36 rfl HSZ.out)) rfl ⟨rfl, below_setCells _ _ _ HB.out (Nat.le_refl _)⟩
end Go.Proofs.YtkoghdgfllichaaDoor.Tp
namespace Go.Proofs.YtkoghdgfllichaaDoor.Tp
open Go.RowKit

theorem results_cell_tmp {P : Program} {fn : Func} {tmps : Array Value} {w : World} {a b : Nat} {t : TypeId} {A : Addr} {v : Value} (hf : fn.results = #[.cell a t, .tmp b]) (ha : tmps.getD a undef = .pointer (some A)) (hl : (loadVar t A).run P w = .ok v w) : (results fn tmps).run P w = .ok (.tuple #[v, tmps.getD b undef]) w := by
  unfold results
  rw [hf]
  have ha2 : tmps[a]?.getD undef = .pointer (some A) := by rw [← ha, Array.getD_eq_getD_getElem?]
  simp [ha2, asAddr, Sem.run_bind, hl]
theorem oneT (T : Tm) : (tmV T).toArray.all (·.oneCell') = true := all_oneCell_toArray fun v hv => by
  simp only [tmV, List.mem_cons] at hv
  rcases hv with h | h | h | h
  · subst h; rfl
  · subst h; rfl
  · subst h; rfl
  · have := Array.all_eq_true_iff_forall_mem.1 (one2 T.ps) v (by simpa using h)
    exact this
theorem wpList_built {P : Program} {ops : Array Oper} {rest : List Oper} {o : Oper} {a : Act} {w : World} {Q : Exit → Act → World → Prop} (hg : o.guard = none) (t : TypeId) (parts : Array (Nat × Operand)) (ho : o.op = .build t parts) (C : Array Value)
    (LL : List (Nat × Value)) (he : (parts.map fun (i, x) => (i, a.eval x)).toList = LL) (hb' : P.built t LL = some C) (h : wpList P ops Q rest (a.put o.dst (.agg C)) w) : wpList P ops Q (o :: rest) a w :=
  have hb := (congrArg (P.built t) he).trans hb'
  wpList_build hg t parts ho (by rw [hb]; rfl) (by rw [hb]; exact h)
def tm0 : Tm := ⟨⟨#[]⟩, false, 0, onesP 0⟩
def std0 : Tm := ⟨⟨#[101, 113, 117, 97, 108]⟩, false, 11, [(1, 12), (1, 12), (1, 12), (1, 12), (1, 12), (1, 12), (1, 12), (1, 12), (1, 12), (1, 12), (1, 12), (0, 1)]⟩
def std1 : Tm := ⟨⟨#[112, 121, 116, 104, 97, 103, 111, 114, 101, 97, 110]⟩, false, 8, [(0, 1), (0, 1), (0, 1), (0, 1), (0, 1), (0, 1), (0, 1), (0, 1), (0, 1), (0, 1), (0, 1), (0, 1)]⟩
def std2 : Tm := ⟨⟨#[109, 101, 97, 110, 116, 111, 110, 101]⟩, true, 8, [(1, 4), (1, 4), (1, 4), (1, 4), (1, 4), (1, 4), (1, 4), (1, 4), (0, 1), (1, 4), (1, 4), (1, 4)]⟩
def std3 : Tm := ⟨⟨#[119, 101, 114, 99, 107, 109, 101, 105, 115, 116, 101, 114]⟩, false, 11, [(1, 4), (1, 4), (1, 4), (0, 1), (0, 1), (1, 4), (0, 1), (0, 1), (0, 1), (0, 1), (0, 1), (0, 1)]⟩
def std4 : Tm := ⟨⟨#[107, 105, 114, 110, 98, 101, 114, 103, 101, 114]⟩, true, 6, [(1, 4), (1, 4), (1, 4), (1, 4), (0, 1), (0, 1), (0, 1), (0, 1), (0, 1), (0, 1), (0, 1), (0, 1)]⟩
def std5 : Tm := ⟨⟨#[118, 97, 108, 108, 111, 116, 116, 105]⟩, false, 6, [(1, 6), (1, 6), (1, 6), (1, 6), (1, 6), (0, 1), (0, 1), (0, 1), (0, 1), (0, 1), (0, 1), (1, 6)]⟩
def std6 : Tm := ⟨⟨#[121, 111, 117, 110, 103]⟩, false, 11, [(1, 6), (1, 6), (1, 6), (1, 6), (1, 6), (1, 6), (0, 1), (0, 1), (0, 1), (0, 1), (0, 1), (0, 1)]⟩
set_option maxRecDepth 100000 in
theorem zero26 (w : World) : (zeroValue 38).run Tryd.prog w = .ok (.agg (tmV tm0).toArray) w := (zero_of_info (n := 27) (by kernel_rfl)).1 w
set_option maxRecDepth 100000 in
set_option maxHeartbeats 1000000 in
theorem Standard0 (w : World) : Calls Tryd.prog 87 #[.string ⟨#[101, 113, 117, 97, 108]⟩] w fun e w' => e = .returned (.tuple #[.agg (tmV std0).toArray, .int .i64 0]) ∧ Below w.heap.size w w' := by
  have hz := zero26
  have hr0 : RowV ((w.alloc (.cells (tmV tm0).toArray 38)).alloc (.cells #[.int .i64 0, .int .i64 1, .int .i64 2, .int .i64 3, .int .i64 4, .int .i64 5, .int .i64 6, .int .i64 7, .int .i64 8, .int .i64 9, .int .i64 10] 3)) w.heap.size 38 (tmV tm0) := (RowV.of_alloc w 38 (tmV tm0)).alloc _
  have hb0 : Below w.heap.size w ((w.alloc (.cells (tmV tm0).toArray 38)).alloc (.cells #[.int .i64 0, .int .i64 1, .int .i64 2, .int .i64 3, .int .i64 4, .int .i64 5, .int .i64 6, .int .i64 7, .int .i64 8, .int .i64 9, .int .i64 10] 3)) := ((belB w _).alloc (by simp) _)
  have hw1 : RowI ((w.alloc (.cells (tmV tm0).toArray 38)).alloc (.cells #[.int .i64 0, .int .i64 1, .int .i64 2, .int .i64 3, .int .i64 4, .int .i64 5, .int .i64 6, .int .i64 7, .int .i64 8, .int .i64 9, .int .i64 10] 3)) (w.heap.size + 1) 3 [0, 1, 2, 3, 4, 5, 6, 7, 8, 9, 10] := by
    have h := RowI.of_alloc (w.alloc (.cells (tmV tm0).toArray 38)) 3 [0, 1, 2, 3, 4, 5, 6, 7, 8, 9, 10]
    rw [World.size_alloc] at h
    exact h
  have hn := narrow_any 12 [0, 1, 2, 3, 4, 5, 6, 7, 8, 9, 10] (some ⟨w.heap.size + 1, 0, none⟩) 11 ((w.alloc (.cells (tmV tm0).toArray 38)).alloc (.cells #[.int .i64 0, .int .i64 1, .int .i64 2, .int .i64 3, .int .i64 4, .int .i64 5, .int .i64 6, .int .i64 7, .int .i64 8, .int .i64 9, .int .i64 10] 3)) (by decide) (by decide) (fun j x hx => ⟨w.heap.size + 1, rfl, hw1.lt, by
    refine hw1.cell (i := j) ?_
    have h2 : ([0, 1, 2, 3, 4, 5, 6, 7, 8, 9, 10].map (fun x : Nat => (x : Int)))[j]? = some (x : Int) := by rw [List.getElem?_map, hx]; rfl
    exact h2⟩)
  have e0 : Value.agg (fl2 (narP 12 [0, 1, 2, 3, 4, 5, 6, 7, 8, 9, 10])).toArray = .agg #[.int .i64 1, .int .i64 12, .int .i64 1, .int .i64 12, .int .i64 1, .int .i64 12, .int .i64 1, .int .i64 12, .int .i64 1, .int .i64 12, .int .i64 1, .int .i64 12, .int .i64 1, .int .i64 12, .int .i64 1, .int .i64 12, .int .i64 1, .int .i64 12, .int .i64 1, .int .i64 12, .int .i64 1, .int .i64 12, .int .i64 0, .int .i64 1] := rfl
  rw [e0] at hn
  have e1 : (.agg (tmV std0).toArray : Value) = .agg #[.string ⟨#[101, 113, 117, 97, 108]⟩, .bool false, .int .i64 11, .int .i64 1, .int .i64 12, .int .i64 1, .int .i64 12, .int .i64 1, .int .i64 12, .int .i64 1, .int .i64 12, .int .i64 1, .int .i64 12, .int .i64 1, .int .i64 12, .int .i64 1, .int .i64 12, .int .i64 1, .int .i64 12, .int .i64 1, .int .i64 12, .int .i64 1, .int .i64 12, .int .i64 1, .int .i64 12, .int .i64 0, .int .i64 1] := rfl
  have HBT : Hid (Tryd.prog.built 38 [(0, .string ⟨#[101, 113, 117, 97, 108]⟩), (2, .int .i64 11), (3, .agg #[.int .i64 1, .int .i64 12, .int .i64 1, .int .i64 12, .int .i64 1, .int .i64 12, .int .i64 1, .int .i64 12, .int .i64 1, .int .i64 12, .int .i64 1, .int .i64 12, .int .i64 1, .int .i64 12, .int .i64 1, .int .i64 12, .int .i64 1, .int .i64 12, .int .i64 1, .int .i64 12, .int .i64 1, .int .i64 12, .int .i64 0, .int .i64 1])] = some (tmV std0).toArray) := Lib.hid (by kernel_rfl)
  have HN := Lib.hid hn
  have HR0 := Lib.hid hr0
  have HB0 := Lib.hid hb0
  have HSZ := Lib.hid (szT (T := std0) rfl)
  clear hw1
  clear hn hr0 hb0 e0
  have HE1 := Lib.hid e1
  clear e1
  go_enter Tryd.func87, Tryd.ntmps87
  go_wp2_with fail
  refine HN.out.mono ?_
  rintro e w1 ⟨he, hb1⟩
  subst he
  have hr := HR0.out.up hb1
  have hb := HB0.out.trans (hb1.mono HB0.out.size)
  have hth : w1.there w.heap.size 0 27 := hr.there (by rw [tmV_len]; exact Nat.le_refl _)
  have hr4 := hr.setCells (tmV std0) 0 _ _ (by rw [tmV_len, tmV_len]; exact Nat.le_refl _)
  have HTH := Lib.hid hth
  have HB := Lib.hid hb
  have HR4 : Hid (RowV (w1.setCells w.heap.size 0 (tmV std0)) w.heap.size 38 (tmV std0)) := Lib.hid hr4
  clear hr hb hb1 hth hr4 HN HR0 HB0
  go_wp2_with (first | ((show wpList _ _ _ (⟨_, .build _ _, _, _, _, _⟩ :: _) _ _); refine wpList_built rfl 38 _ rfl (tmV std0).toArray [(0, .string ⟨#[101, 113, 117, 97, 108]⟩), (2, .int .i64 11), (3, .agg #[.int .i64 1, .int .i64 12, .int .i64 1, .int .i64 12, .int .i64 1, .int .i64 12, .int .i64 1, .int .i64 12, .int .i64 1, .int .i64 12, .int .i64 1, .int .i64 12, .int .i64 1, .int .i64 12, .int .i64 1, .int .i64 12, .int .i64 1, .int .i64 12, .int .i64 1, .int .i64 12, .int .i64 1, .int .i64 12, .int .i64 0, .int .i64 1])] (by rw [List.map_toArray]; rfl) HBT.out ?_) | ((show wpList _ _ _ (⟨_, .store _ _ _, _, _, _, _⟩ :: _) _ _); refine wpList_store_mid rfl 38 _ _ rfl w.heap.size 0 (tmV std0).toArray rfl rfl HTH.out HSZ.out (oneT _) ?_))
  exact bodyPost_ret (v := .tuple #[.agg (tmV std0).toArray, .int .i64 0]) (results_cell_tmp (a := 2) (b := 3) rfl rfl (run_loadVar_mid _ _ 0 _ (tmV std0) _ HR4.out.all Tryd.underlying38 rfl HSZ.out)) rfl ⟨rfl, below_setCells _ _ _ HB.out (Nat.le_refl _)⟩
set_option maxRecDepth 100000 in
set_option maxHeartbeats 1000000 in
theorem Standard1 (w : World) : Calls Tryd.prog 87 #[.string ⟨#[112, 121, 116, 104, 97, 103, 111, 114, 101, 97, 110]⟩] w fun e w' => e = .returned (.tuple #[.agg (tmV std1).toArray, .int .i64 0]) ∧ Below w.heap.size w w' := by
  have hz := zero26
  have hr0 : RowV (w.alloc (.cells (tmV tm0).toArray 38)) w.heap.size 38 (tmV tm0) := RowV.of_alloc w 38 (tmV tm0)
  have hb0 : Below w.heap.size w (w.alloc (.cells (tmV tm0).toArray 38)) := (belB w _)
  have hn := narrow_any 1 [] none 0 (w.alloc (.cells (tmV tm0).toArray 38)) (by decide) (by decide) (fun j x hx => by cases hx)
  have e0 : Value.agg (fl2 (narP 1 [])).toArray = .agg #[.int .i64 0, .int .i64 1, .int .i64 0, .int .i64 1, .int .i64 0, .int .i64 1, .int .i64 0, .int .i64 1, .int .i64 0, .int .i64 1, .int .i64 0, .int .i64 1, .int .i64 0, .int .i64 1, .int .i64 0, .int .i64 1, .int .i64 0, .int .i64 1, .int .i64 0, .int .i64 1, .int .i64 0, .int .i64 1, .int .i64 0, .int .i64 1] := rfl
  rw [e0] at hn
  have e1 : (.agg (tmV std1).toArray : Value) = .agg #[.string ⟨#[112, 121, 116, 104, 97, 103, 111, 114, 101, 97, 110]⟩, .bool false, .int .i64 8, .int .i64 0, .int .i64 1, .int .i64 0, .int .i64 1, .int .i64 0, .int .i64 1, .int .i64 0, .int .i64 1, .int .i64 0, .int .i64 1, .int .i64 0, .int .i64 1, .int .i64 0, .int .i64 1, .int .i64 0, .int .i64 1, .int .i64 0, .int .i64 1, .int .i64 0, .int .i64 1, .int .i64 0, .int .i64 1, .int .i64 0, .int .i64 1] := rfl
  have HBT : Hid (Tryd.prog.built 38 [(0, .string ⟨#[112, 121, 116, 104, 97, 103, 111, 114, 101, 97, 110]⟩), (2, .int .i64 8), (3, .agg #[.int .i64 0, .int .i64 1, .int .i64 0, .int .i64 1, .int .i64 0, .int .i64 1, .int .i64 0, .int .i64 1, .int .i64 0, .int .i64 1, .int .i64 0, .int .i64 1, .int .i64 0, .int .i64 1, .int .i64 0, .int .i64 1, .int .i64 0, .int .i64 1, .int .i64 0, .int .i64 1, .int .i64 0, .int .i64 1, .int .i64 0, .int .i64 1])] = some (tmV std1).toArray) := Lib.hid (by kernel_rfl)
  have HN := Lib.hid hn
  have HR0 := Lib.hid hr0
  have HB0 := Lib.hid hb0
  have HSZ := Lib.hid (szT (T := std1) rfl)
  skip
  clear hn hr0 hb0 e0
  have HE1 := Lib.hid e1
  clear e1
  go_enter Tryd.func87, Tryd.ntmps87
  go_wp2_with fail
  refine HN.out.mono ?_
  rintro e w1 ⟨he, hb1⟩
  subst he
  have hr := HR0.out.up hb1
  have hb := HB0.out.trans (hb1.mono HB0.out.size)
  have hth : w1.there w.heap.size 0 27 := hr.there (by rw [tmV_len]; exact Nat.le_refl _)
  have hr4 := hr.setCells (tmV std1) 0 _ _ (by rw [tmV_len, tmV_len]; exact Nat.le_refl _)
  have HTH := Lib.hid hth
  have HB := Lib.hid hb
  have HR4 : Hid (RowV (w1.setCells w.heap.size 0 (tmV std1)) w.heap.size 38 (tmV std1)) := Lib.hid hr4
  clear hr hb hb1 hth hr4 HN HR0 HB0
  go_wp2_with (first | ((show wpList _ _ _ (⟨_, .build _ _, _, _, _, _⟩ :: _) _ _); refine wpList_built rfl 38 _ rfl (tmV std1).toArray [(0, .string ⟨#[112, 121, 116, 104, 97, 103, 111, 114, 101, 97, 110]⟩), (2, .int .i64 8), (3, .agg #[.int .i64 0, .int .i64 1, .int .i64 0, .int .i64 1, .int .i64 0, .int .i64 1, .int .i64 0, .int .i64 1, .int .i64 0, .int .i64 1, .int .i64 0, .int .i64 1, .int .i64 0, .int .i64 1, .int .i64 0, .int .i64 1, .int .i64 0, .int .i64 1, .int .i64 0, .int .i64 1, .int .i64 0, .int .i64 1, .int .i64 0, .int .i64 1])] (by rw [List.map_toArray]; rfl) HBT.out ?_) | ((show wpList _ _ _ (⟨_, .store _ _ _, _, _, _, _⟩ :: _) _ _); refine wpList_store_mid rfl 38 _ _ rfl w.heap.size 0 (tmV std1).toArray rfl rfl HTH.out HSZ.out (oneT _) ?_))
  exact bodyPost_ret (v := .tuple #[.agg (tmV std1).toArray, .int .i64 0]) (results_cell_tmp (a := 2) (b := 3) rfl rfl (run_loadVar_mid _ _ 0 _ (tmV std1) _ HR4.out.all Tryd.underlying38 rfl HSZ.out)) rfl ⟨rfl, below_setCells _ _ _ HB.out (Nat.le_refl _)⟩
set_option maxRecDepth 100000 in
set_option maxHeartbeats 1000000 in
theorem Standard2 (w : World) : Calls Tryd.prog 87 #[.string ⟨#[109, 101, 97, 110, 116, 111, 110, 101]⟩] w fun e w' => e = .returned (.tuple #[.agg (tmV std2).toArray, .int .i64 0]) ∧ Below w.heap.size w w' := by
  have hz := zero26
  have hr0 : RowV ((w.alloc (.cells (tmV tm0).toArray 38)).alloc (.cells #[.int .i64 0, .int .i64 1, .int .i64 2, .int .i64 3, .int .i64 4, .int .i64 5, .int .i64 6, .int .i64 7, .int .i64 9, .int .i64 10, .int .i64 11] 3)) w.heap.size 38 (tmV tm0) := (RowV.of_alloc w 38 (tmV tm0)).alloc _
  have hb0 : Below w.heap.size w ((w.alloc (.cells (tmV tm0).toArray 38)).alloc (.cells #[.int .i64 0, .int .i64 1, .int .i64 2, .int .i64 3, .int .i64 4, .int .i64 5, .int .i64 6, .int .i64 7, .int .i64 9, .int .i64 10, .int .i64 11] 3)) := ((belB w _).alloc (by simp) _)
  have hw1 : RowI ((w.alloc (.cells (tmV tm0).toArray 38)).alloc (.cells #[.int .i64 0, .int .i64 1, .int .i64 2, .int .i64 3, .int .i64 4, .int .i64 5, .int .i64 6, .int .i64 7, .int .i64 9, .int .i64 10, .int .i64 11] 3)) (w.heap.size + 1) 3 [0, 1, 2, 3, 4, 5, 6, 7, 9, 10, 11] := by
    have h := RowI.of_alloc (w.alloc (.cells (tmV tm0).toArray 38)) 3 [0, 1, 2, 3, 4, 5, 6, 7, 9, 10, 11]
    rw [World.size_alloc] at h
    exact h
  have hn := narrow_any 4 [0, 1, 2, 3, 4, 5, 6, 7, 9, 10, 11] (some ⟨w.heap.size + 1, 0, none⟩) 11 ((w.alloc (.cells (tmV tm0).toArray 38)).alloc (.cells #[.int .i64 0, .int .i64 1, .int .i64 2, .int .i64 3, .int .i64 4, .int .i64 5, .int .i64 6, .int .i64 7, .int .i64 9, .int .i64 10, .int .i64 11] 3)) (by decide) (by decide) (fun j x hx => ⟨w.heap.size + 1, rfl, hw1.lt, by
    refine hw1.cell (i := j) ?_
    have h2 : ([0, 1, 2, 3, 4, 5, 6, 7, 9, 10, 11].map (fun x : Nat => (x : Int)))[j]? = some (x : Int) := by rw [List.getElem?_map, hx]; rfl
    exact h2⟩)
  have e0 : Value.agg (fl2 (narP 4 [0, 1, 2, 3, 4, 5, 6, 7, 9, 10, 11])).toArray = .agg #[.int .i64 1, .int .i64 4, .int .i64 1, .int .i64 4, .int .i64 1, .int .i64 4, .int .i64 1, .int .i64 4, .int .i64 1, .int .i64 4, .int .i64 1, .int .i64 4, .int .i64 1, .int .i64 4, .int .i64 1, .int .i64 4, .int .i64 0, .int .i64 1, .int .i64 1, .int .i64 4, .int .i64 1, .int .i64 4, .int .i64 1, .int .i64 4] := rfl
  rw [e0] at hn
  have e1 : (.agg (tmV std2).toArray : Value) = .agg #[.string ⟨#[109, 101, 97, 110, 116, 111, 110, 101]⟩, .bool true, .int .i64 8, .int .i64 1, .int .i64 4, .int .i64 1, .int .i64 4, .int .i64 1, .int .i64 4, .int .i64 1, .int .i64 4, .int .i64 1, .int .i64 4, .int .i64 1, .int .i64 4, .int .i64 1, .int .i64 4, .int .i64 1, .int .i64 4, .int .i64 0, .int .i64 1, .int .i64 1, .int .i64 4, .int .i64 1, .int .i64 4, .int .i64 1, .int .i64 4] := rfl
  have HBT : Hid (Tryd.prog.built 38 [(0, .string ⟨#[109, 101, 97, 110, 116, 111, 110, 101]⟩), (1, .bool true), (2, .int .i64 8), (3, .agg #[.int .i64 1, .int .i64 4, .int .i64 1, .int .i64 4, .int .i64 1, .int .i64 4, .int .i64 1, .int .i64 4, .int .i64 1, .int .i64 4, .int .i64 1, .int .i64 4, .int .i64 1, .int .i64 4, .int .i64 1, .int .i64 4, .int .i64 0, .int .i64 1, .int .i64 1, .int .i64 4, .int .i64 1, .int .i64 4, .int .i64 1, .int .i64 4])] = some (tmV std2).toArray) := Lib.hid (by kernel_rfl)
  have HN := Lib.hid hn
  have HR0 := Lib.hid hr0
  have HB0 := Lib.hid hb0
  have HSZ := Lib.hid (szT (T := std2) rfl)
  clear hw1
  clear hn hr0 hb0 e0
  have HE1 := Lib.hid e1
  clear e1
  go_enter Tryd.func87, Tryd.ntmps87
  go_wp2_with fail
  refine HN.out.mono ?_
  rintro e w1 ⟨he, hb1⟩
  subst he
  have hr := HR0.out.up hb1
  have hb := HB0.out.trans (hb1.mono HB0.out.size)
  have hth : w1.there w.heap.size 0 27 := hr.there (by rw [tmV_len]; exact Nat.le_refl _)
  have hr4 := hr.setCells (tmV std2) 0 _ _ (by rw [tmV_len, tmV_len]; exact Nat.le_refl _)
  have HTH := Lib.hid hth
  have HB := Lib.hid hb
  have HR4 : Hid (RowV (w1.setCells w.heap.size 0 (tmV std2)) w.heap.size 38 (tmV std2)) := Lib.hid hr4
  clear hr hb hb1 hth hr4 HN HR0 HB0
  go_wp2_with (first | ((show wpList _ _ _ (⟨_, .build _ _, _, _, _, _⟩ :: _) _ _); refine wpList_built rfl 38 _ rfl (tmV std2).toArray [(0, .string ⟨#[109, 101, 97, 110, 116, 111, 110, 101]⟩), (1, .bool true), (2, .int .i64 8), (3, .agg #[.int .i64 1, .int .i64 4, .int .i64 1, .int .i64 4, .int .i64 1, .int .i64 4, .int .i64 1, .int .i64 4, .int .i64 1, .int .i64 4, .int .i64 1, .int .i64 4, .int .i64 1, .int .i64 4, .int .i64 1, .int .i64 4, .int .i64 0, .int .i64 1, .int .i64 1, .int .i64 4, .int .i64 1, .int .i64 4, .int .i64 1, .int .i64 4])] (by rw [List.map_toArray]; rfl) HBT.out ?_) | ((show wpList _ _ _ (⟨_, .store _ _ _, _, _, _, _⟩ :: _) _ _); refine wpList_store_mid rfl 38 _ _ rfl w.heap.size 0 (tmV std2).toArray rfl rfl HTH.out HSZ.out (oneT _) ?_))
  exact bodyPost_ret (v := .tuple #[.agg (tmV std2).toArray, .int .i64 0]) (results_cell_tmp (a := 2) (b := 3) rfl rfl (run_loadVar_mid _ _ 0 _ (tmV std2) _ HR4.out.all Tryd.underlying38 rfl HSZ.out)) rfl ⟨rfl, below_setCells _ _ _ HB.out (Nat.le_refl _)⟩
set_option maxRecDepth 100000 in
set_option maxHeartbeats 1000000 in
theorem Standard3 (w : World) : Calls Tryd.prog 87 #[.string ⟨#[119, 101, 114, 99, 107, 109, 101, 105, 115, 116, 101, 114]⟩] w fun e w' => e = .returned (.tuple #[.agg (tmV std3).toArray, .int .i64 0]) ∧ Below w.heap.size w w' := by
  have hz := zero26
  have hr0 : RowV ((w.alloc (.cells (tmV tm0).toArray 38)).alloc (.cells #[.int .i64 0, .int .i64 1, .int .i64 2, .int .i64 5] 3)) w.heap.size 38 (tmV tm0) := (RowV.of_alloc w 38 (tmV tm0)).alloc _
  have hb0 : Below w.heap.size w ((w.alloc (.cells (tmV tm0).toArray 38)).alloc (.cells #[.int .i64 0, .int .i64 1, .int .i64 2, .int .i64 5] 3)) := ((belB w _).alloc (by simp) _)
  have hw1 : RowI ((w.alloc (.cells (tmV tm0).toArray 38)).alloc (.cells #[.int .i64 0, .int .i64 1, .int .i64 2, .int .i64 5] 3)) (w.heap.size + 1) 3 [0, 1, 2, 5] := by
    have h := RowI.of_alloc (w.alloc (.cells (tmV tm0).toArray 38)) 3 [0, 1, 2, 5]
    rw [World.size_alloc] at h
    exact h
  have hn := narrow_any 4 [0, 1, 2, 5] (some ⟨w.heap.size + 1, 0, none⟩) 4 ((w.alloc (.cells (tmV tm0).toArray 38)).alloc (.cells #[.int .i64 0, .int .i64 1, .int .i64 2, .int .i64 5] 3)) (by decide) (by decide) (fun j x hx => ⟨w.heap.size + 1, rfl, hw1.lt, by
    refine hw1.cell (i := j) ?_
    have h2 : ([0, 1, 2, 5].map (fun x : Nat => (x : Int)))[j]? = some (x : Int) := by rw [List.getElem?_map, hx]; rfl
    exact h2⟩)
  have e0 : Value.agg (fl2 (narP 4 [0, 1, 2, 5])).toArray = .agg #[.int .i64 1, .int .i64 4, .int .i64 1, .int .i64 4, .int .i64 1, .int .i64 4, .int .i64 0, .int .i64 1, .int .i64 0, .int .i64 1, .int .i64 1, .int .i64 4, .int .i64 0, .int .i64 1, .int .i64 0, .int .i64 1, .int .i64 0, .int .i64 1, .int .i64 0, .int .i64 1, .int .i64 0, .int .i64 1, .int .i64 0, .int .i64 1] := rfl
  rw [e0] at hn
  have e1 : (.agg (tmV std3).toArray : Value) = .agg #[.string ⟨#[119, 101, 114, 99, 107, 109, 101, 105, 115, 116, 101, 114]⟩, .bool false, .int .i64 11, .int .i64 1, .int .i64 4, .int .i64 1, .int .i64 4, .int .i64 1, .int .i64 4, .int .i64 0, .int .i64 1, .int .i64 0, .int .i64 1, .int .i64 1, .int .i64 4, .int .i64 0, .int .i64 1, .int .i64 0, .int .i64 1, .int .i64 0, .int .i64 1, .int .i64 0, .int .i64 1, .int .i64 0, .int .i64 1, .int .i64 0, .int .i64 1] := rfl
  have HBT : Hid (Tryd.prog.built 38 [(0, .string ⟨#[119, 101, 114, 99, 107, 109, 101, 105, 115, 116, 101, 114]⟩), (2, .int .i64 11), (3, .agg #[.int .i64 1, .int .i64 4, .int .i64 1, .int .i64 4, .int .i64 1, .int .i64 4, .int .i64 0, .int .i64 1, .int .i64 0, .int .i64 1, .int .i64 1, .int .i64 4, .int .i64 0, .int .i64 1, .int .i64 0, .int .i64 1, .int .i64 0, .int .i64 1, .int .i64 0, .int .i64 1, .int .i64 0, .int .i64 1, .int .i64 0, .int .i64 1])] = some (tmV std3).toArray) := Lib.hid (by kernel_rfl)
  have HN := Lib.hid hn
  have HR0 := Lib.hid hr0
  have HB0 := Lib.hid hb0
  have HSZ := Lib.hid (szT (T := std3) rfl)
  clear hw1
  clear hn hr0 hb0 e0
  have HE1 := Lib.hid e1
  clear e1
  go_enter Tryd.func87, Tryd.ntmps87
  go_wp2_with fail
  refine HN.out.mono ?_
  rintro e w1 ⟨he, hb1⟩
  subst he
  have hr := HR0.out.up hb1
  have hb := HB0.out.trans (hb1.mono HB0.out.size)
  have hth : w1.there w.heap.size 0 27 := hr.there (by rw [tmV_len]; exact Nat.le_refl _)
  have hr4 := hr.setCells (tmV std3) 0 _ _ (by rw [tmV_len, tmV_len]; exact Nat.le_refl _)
  have HTH := Lib.hid hth
  have HB := Lib.hid hb
  have HR4 : Hid (RowV (w1.setCells w.heap.size 0 (tmV std3)) w.heap.size 38 (tmV std3)) := Lib.hid hr4
  clear hr hb hb1 hth hr4 HN HR0 HB0
  go_wp2_with (first | ((show wpList _ _ _ (⟨_, .build _ _, _, _, _, _⟩ :: _) _ _); refine wpList_built rfl 38 _ rfl (tmV std3).toArray [(0, .string ⟨#[119, 101, 114, 99, 107, 109, 101, 105, 115, 116, 101, 114]⟩), (2, .int .i64 11), (3, .agg #[.int .i64 1, .int .i64 4, .int .i64 1, .int .i64 4, .int .i64 1, .int .i64 4, .int .i64 0, .int .i64 1, .int .i64 0, .int .i64 1, .int .i64 1, .int .i64 4, .int .i64 0, .int .i64 1, .int .i64 0, .int .i64 1, .int .i64 0, .int .i64 1, .int .i64 0, .int .i64 1, .int .i64 0, .int .i64 1, .int .i64 0, .int .i64 1])] (by rw [List.map_toArray]; rfl) HBT.out ?_) | ((show wpList _ _ _ (⟨_, .store _ _ _, _, _, _, _⟩ :: _) _ _); refine wpList_store_mid rfl 38 _ _ rfl w.heap.size 0 (tmV std3).toArray rfl rfl HTH.out HSZ.out (oneT _) ?_))
  exact bodyPost_ret (v := .tuple #[.agg (tmV std3).toArray, .int .i64 0]) (results_cell_tmp (a := 2) (b := 3) rfl rfl (run_loadVar_mid _ _ 0 _ (tmV std3) _ HR4.out.all Tryd.underlying38 rfl HSZ.out)) rfl ⟨rfl, below_setCells _ _ _ HB.out (Nat.le_refl _)⟩
set_option maxRecDepth 100000 in
set_option maxHeartbeats 1000000 in
theorem Standard4 (w : World) : Calls Tryd.prog 87 #[.string ⟨#[107, 105, 114, 110, 98, 101, 114, 103, 101, 114]⟩] w fun e w' => e = .returned (.tuple #[.agg (tmV std4).toArray, .int .i64 0]) ∧ Below w.heap.size w w' := by
  have hz := zero26
  have hr0 : RowV ((w.alloc (.cells (tmV tm0).toArray 38)).alloc (.cells #[.int .i64 0, .int .i64 1, .int .i64 2, .int .i64 3] 3)) w.heap.size 38 (tmV tm0) := (RowV.of_alloc w 38 (tmV tm0)).alloc _
  have hb0 : Below w.heap.size w ((w.alloc (.cells (tmV tm0).toArray 38)).alloc (.cells #[.int .i64 0, .int .i64 1, .int .i64 2, .int .i64 3] 3)) := ((belB w _).alloc (by simp) _)
  have hw1 : RowI ((w.alloc (.cells (tmV tm0).toArray 38)).alloc (.cells #[.int .i64 0, .int .i64 1, .int .i64 2, .int .i64 3] 3)) (w.heap.size + 1) 3 [0, 1, 2, 3] := by
    have h := RowI.of_alloc (w.alloc (.cells (tmV tm0).toArray 38)) 3 [0, 1, 2, 3]
    rw [World.size_alloc] at h
    exact h
  have hn := narrow_any 4 [0, 1, 2, 3] (some ⟨w.heap.size + 1, 0, none⟩) 4 ((w.alloc (.cells (tmV tm0).toArray 38)).alloc (.cells #[.int .i64 0, .int .i64 1, .int .i64 2, .int .i64 3] 3)) (by decide) (by decide) (fun j x hx => ⟨w.heap.size + 1, rfl, hw1.lt, by
    refine hw1.cell (i := j) ?_
    have h2 : ([0, 1, 2, 3].map (fun x : Nat => (x : Int)))[j]? = some (x : Int) := by rw [List.getElem?_map, hx]; rfl
    exact h2⟩)
  have e0 : Value.agg (fl2 (narP 4 [0, 1, 2, 3])).toArray = .agg #[.int .i64 1, .int .i64 4, .int .i64 1, .int .i64 4, .int .i64 1, .int .i64 4, .int .i64 1, .int .i64 4, .int .i64 0, .int .i64 1, .int .i64 0, .int .i64 1, .int .i64 0, .int .i64 1, .int .i64 0, .int .i64 1, .int .i64 0, .int .i64 1, .int .i64 0, .int .i64 1, .int .i64 0, .int .i64 1, .int .i64 0, .int .i64 1] := rfl
  rw [e0] at hn
  have e1 : (.agg (tmV std4).toArray : Value) = .agg #[.string ⟨#[107, 105, 114, 110, 98, 101, 114, 103, 101, 114]⟩, .bool true, .int .i64 6, .int .i64 1, .int .i64 4, .int .i64 1, .int .i64 4, .int .i64 1, .int .i64 4, .int .i64 1, .int .i64 4, .int .i64 0, .int .i64 1, .int .i64 0, .int .i64 1, .int .i64 0, .int .i64 1, .int .i64 0, .int .i64 1, .int .i64 0, .int .i64 1, .int .i64 0, .int .i64 1, .int .i64 0, .int .i64 1, .int .i64 0, .int .i64 1] := rfl
  have HBT : Hid (Tryd.prog.built 38 [(0, .string ⟨#[107, 105, 114, 110, 98, 101, 114, 103, 101, 114]⟩), (1, .bool true), (2, .int .i64 6), (3, .agg #[.int .i64 1, .int .i64 4, .int .i64 1, .int .i64 4, .int .i64 1, .int .i64 4, .int .i64 1, .int .i64 4, .int .i64 0, .int .i64 1, .int .i64 0, .int .i64 1, .int .i64 0, .int .i64 1, .int .i64 0, .int .i64 1, .int .i64 0, .int .i64 1, .int .i64 0, .int .i64 1, .int .i64 0, .int .i64 1, .int .i64 0, .int .i64 1])] = some (tmV std4).toArray) := Lib.hid (by kernel_rfl)
  have HN := Lib.hid hn
  have HR0 := Lib.hid hr0
  have HB0 := Lib.hid hb0
  have HSZ := Lib.hid (szT (T := std4) rfl)
  clear hw1
  clear hn hr0 hb0 e0
  have HE1 := Lib.hid e1
  clear e1
  go_enter Tryd.func87, Tryd.ntmps87
  go_wp2_with fail
  refine HN.out.mono ?_
  rintro e w1 ⟨he, hb1⟩
  subst he
  have hr := HR0.out.up hb1
  have hb := HB0.out.trans (hb1.mono HB0.out.size)
  have hth : w1.there w.heap.size 0 27 := hr.there (by rw [tmV_len]; exact Nat.le_refl _)
  have hr4 := hr.setCells (tmV std4) 0 _ _ (by rw [tmV_len, tmV_len]; exact Nat.le_refl _)
  have HTH := Lib.hid hth
  have HB := Lib.hid hb
  have HR4 : Hid (RowV (w1.setCells w.heap.size 0 (tmV std4)) w.heap.size 38 (tmV std4)) := Lib.hid hr4
  clear hr hb hb1 hth hr4 HN HR0 HB0
  go_wp2_with (first | ((show wpList _ _ _ (⟨_, .build _ _, _, _, _, _⟩ :: _) _ _); refine wpList_built rfl 38 _ rfl (tmV std4).toArray [(0, .string ⟨#[107, 105, 114, 110, 98, 101, 114, 103, 101, 114]⟩), (1, .bool true), (2, .int .i64 6), (3, .agg #[.int .i64 1, .int .i64 4, .int .i64 1, .int .i64 4, .int .i64 1, .int .i64 4, .int .i64 1, .int .i64 4, .int .i64 0, .int .i64 1, .int .i64 0, .int .i64 1, .int .i64 0, .int .i64 1, .int .i64 0, .int .i64 1, .int .i64 0, .int .i64 1, .int .i64 0, .int .i64 1, .int .i64 0, .int .i64 1, .int .i64 0, .int .i64 1])] (by rw [List.map_toArray]; rfl) HBT.out ?_) | ((show wpList _ _ _ (⟨_, .store _ _ _, _, _, _, _⟩ :: _) _ _); refine wpList_store_mid rfl 38 _ _ rfl w.heap.size 0 (tmV std4).toArray rfl rfl HTH.out HSZ.out (oneT _) ?_))
  exact bodyPost_ret (v := .tuple #[.agg (tmV std4).toArray, .int .i64 0]) (results_cell_tmp (a := 2) (b := 3) rfl rfl (run_loadVar_mid _ _ 0 _ (tmV std4) _ HR4.out.all Tryd.underlying38 rfl HSZ.out)) rfl ⟨rfl, below_setCells _ _ _ HB.out (Nat.le_refl _)⟩
set_option maxRecDepth 100000 in
set_option maxHeartbeats 1000000 in
theorem Standard5 (w : World) : Calls Tryd.prog 87 #[.string ⟨#[118, 97, 108, 108, 111, 116, 116, 105]⟩] w fun e w' => e = .returned (.tuple #[.agg (tmV std5).toArray, .int .i64 0]) ∧ Below w.heap.size w w' := by
  have hz := zero26
  have hr0 : RowV ((w.alloc (.cells (tmV tm0).toArray 38)).alloc (.cells #[.int .i64 0, .int .i64 1, .int .i64 2, .int .i64 3, .int .i64 4, .int .i64 11] 3)) w.heap.size 38 (tmV tm0) := (RowV.of_alloc w 38 (tmV tm0)).alloc _
  have hb0 : Below w.heap.size w ((w.alloc (.cells (tmV tm0).toArray 38)).alloc (.cells #[.int .i64 0, .int .i64 1, .int .i64 2, .int .i64 3, .int .i64 4, .int .i64 11] 3)) := ((belB w _).alloc (by simp) _)
  have hw1 : RowI ((w.alloc (.cells (tmV tm0).toArray 38)).alloc (.cells #[.int .i64 0, .int .i64 1, .int .i64 2, .int .i64 3, .int .i64 4, .int .i64 11] 3)) (w.heap.size + 1) 3 [0, 1, 2, 3, 4, 11] := by
    have h := RowI.of_alloc (w.alloc (.cells (tmV tm0).toArray 38)) 3 [0, 1, 2, 3, 4, 11]
    rw [World.size_alloc] at h
    exact h
  have hn := narrow_any 6 [0, 1, 2, 3, 4, 11] (some ⟨w.heap.size + 1, 0, none⟩) 6 ((w.alloc (.cells (tmV tm0).toArray 38)).alloc (.cells #[.int .i64 0, .int .i64 1, .int .i64 2, .int .i64 3, .int .i64 4, .int .i64 11] 3)) (by decide) (by decide) (fun j x hx => ⟨w.heap.size + 1, rfl, hw1.lt, by
    refine hw1.cell (i := j) ?_
    have h2 : ([0, 1, 2, 3, 4, 11].map (fun x : Nat => (x : Int)))[j]? = some (x : Int) := by rw [List.getElem?_map, hx]; rfl
    exact h2⟩)
  have e0 : Value.agg (fl2 (narP 6 [0, 1, 2, 3, 4, 11])).toArray = .agg #[.int .i64 1, .int .i64 6, .int .i64 1, .int .i64 6, .int .i64 1, .int .i64 6, .int .i64 1, .int .i64 6, .int .i64 1, .int .i64 6, .int .i64 0, .int .i64 1, .int .i64 0, .int .i64 1, .int .i64 0, .int .i64 1, .int .i64 0, .int .i64 1, .int .i64 0, .int .i64 1, .int .i64 0, .int .i64 1, .int .i64 1, .int .i64 6] := rfl
  rw [e0] at hn
  have e1 : (.agg (tmV std5).toArray : Value) = .agg #[.string ⟨#[118, 97, 108, 108, 111, 116, 116, 105]⟩, .bool false, .int .i64 6, .int .i64 1, .int .i64 6, .int .i64 1, .int .i64 6, .int .i64 1, .int .i64 6, .int .i64 1, .int .i64 6, .int .i64 1, .int .i64 6, .int .i64 0, .int .i64 1, .int .i64 0, .int .i64 1, .int .i64 0, .int .i64 1, .int .i64 0, .int .i64 1, .int .i64 0, .int .i64 1, .int .i64 0, .int .i64 1, .int .i64 1, .int .i64 6] := rfl
  have HBT : Hid (Tryd.prog.built 38 [(0, .string ⟨#[118, 97, 108, 108, 111, 116, 116, 105]⟩), (2, .int .i64 6), (3, .agg #[.int .i64 1, .int .i64 6, .int .i64 1, .int .i64 6, .int .i64 1, .int .i64 6, .int .i64 1, .int .i64 6, .int .i64 1, .int .i64 6, .int .i64 0, .int .i64 1, .int .i64 0, .int .i64 1, .int .i64 0, .int .i64 1, .int .i64 0, .int .i64 1, .int .i64 0, .int .i64 1, .int .i64 0, .int .i64 1, .int .i64 1, .int .i64 6])] = some (tmV std5).toArray) := Lib.hid (by kernel_rfl)
  have HN := Lib.hid hn
  have HR0 := Lib.hid hr0
  have HB0 := Lib.hid hb0
  have HSZ := Lib.hid (szT (T := std5) rfl)
  clear hw1
  clear hn hr0 hb0 e0
  have HE1 := Lib.hid e1
  clear e1
  go_enter Tryd.func87, Tryd.ntmps87
  go_wp2_with fail
  refine HN.out.mono ?_
  rintro e w1 ⟨he, hb1⟩
  subst he
  have hr := HR0.out.up hb1
  have hb := HB0.out.trans (hb1.mono HB0.out.size)
  have hth : w1.there w.heap.size 0 27 := hr.there (by rw [tmV_len]; exact Nat.le_refl _)
  have hr4 := hr.setCells (tmV std5) 0 _ _ (by rw [tmV_len, tmV_len]; exact Nat.le_refl _)
  have HTH := Lib.hid hth
  have HB := Lib.hid hb
  have HR4 : Hid (RowV (w1.setCells w.heap.size 0 (tmV std5)) w.heap.size 38 (tmV std5)) := Lib.hid hr4
  clear hr hb hb1 hth hr4 HN HR0 HB0
  go_wp2_with (first | ((show wpList _ _ _ (⟨_, .build _ _, _, _, _, _⟩ :: _) _ _); refine wpList_built rfl 38 _ rfl (tmV std5).toArray [(0, .string ⟨#[118, 97, 108, 108, 111, 116, 116, 105]⟩), (2, .int .i64 6), (3, .agg #[.int .i64 1, .int .i64 6, .int .i64 1, .int .i64 6, .int .i64 1, .int .i64 6, .int .i64 1, .int .i64 6, .int .i64 1, .int .i64 6, .int .i64 0, .int .i64 1, .int .i64 0, .int .i64 1, .int .i64 0, .int .i64 1, .int .i64 0, .int .i64 1, .int .i64 0, .int .i64 1, .int .i64 0, .int .i64 1, .int .i64 1, .int .i64 6])] (by rw [List.map_toArray]; rfl) HBT.out ?_) | ((show wpList _ _ _ (⟨_, .store _ _ _, _, _, _, _⟩ :: _) _ _); refine wpList_store_mid rfl 38 _ _ rfl w.heap.size 0 (tmV std5).toArray rfl rfl HTH.out HSZ.out (oneT _) ?_))
  exact bodyPost_ret (v := .tuple #[.agg (tmV std5).toArray, .int .i64 0]) (results_cell_tmp (a := 2) (b := 3) rfl rfl (run_loadVar_mid _ _ 0 _ (tmV std5) _ HR4.out.all Tryd.underlying38 rfl HSZ.out)) rfl ⟨rfl, below_setCells _ _ _ HB.out (Nat.le_refl _)⟩
set_option maxRecDepth 100000 in
set_option maxHeartbeats 1000000 in
theorem Standard6 (w : World) : Calls Tryd.prog 87 #[.string ⟨#[121, 111, 117, 110, 103]⟩] w fun e w' => e = .returned (.tuple #[.agg (tmV std6).toArray, .int .i64 0]) ∧ Below w.heap.size w w' := by
  have hz := zero26
  have hr0 : RowV ((w.alloc (.cells (tmV tm0).toArray 38)).alloc (.cells #[.int .i64 0, .int .i64 1, .int .i64 2, .int .i64 3, .int .i64 4, .int .i64 5] 3)) w.heap.size 38 (tmV tm0) := (RowV.of_alloc w 38 (tmV tm0)).alloc _
  have hb0 : Below w.heap.size w ((w.alloc (.cells (tmV tm0).toArray 38)).alloc (.cells #[.int .i64 0, .int .i64 1, .int .i64 2, .int .i64 3, .int .i64 4, .int .i64 5] 3)) := ((belB w _).alloc (by simp) _)
  have hw1 : RowI ((w.alloc (.cells (tmV tm0).toArray 38)).alloc (.cells #[.int .i64 0, .int .i64 1, .int .i64 2, .int .i64 3, .int .i64 4, .int .i64 5] 3)) (w.heap.size + 1) 3 [0, 1, 2, 3, 4, 5] := by
    have h := RowI.of_alloc (w.alloc (.cells (tmV tm0).toArray 38)) 3 [0, 1, 2, 3, 4, 5]
    rw [World.size_alloc] at h
    exact h
  have hn := narrow_any 6 [0, 1, 2, 3, 4, 5] (some ⟨w.heap.size + 1, 0, none⟩) 6 ((w.alloc (.cells (tmV tm0).toArray 38)).alloc (.cells #[.int .i64 0, .int .i64 1, .int .i64 2, .int .i64 3, .int .i64 4, .int .i64 5] 3)) (by decide) (by decide) (fun j x hx => ⟨w.heap.size + 1, rfl, hw1.lt, by
    refine hw1.cell (i := j) ?_
    have h2 : ([0, 1, 2, 3, 4, 5].map (fun x : Nat => (x : Int)))[j]? = some (x : Int) := by rw [List.getElem?_map, hx]; rfl
    exact h2⟩)
  have e0 : Value.agg (fl2 (narP 6 [0, 1, 2, 3, 4, 5])).toArray = .agg #[.int .i64 1, .int .i64 6, .int .i64 1, .int .i64 6, .int .i64 1, .int .i64 6, .int .i64 1, .int .i64 6, .int .i64 1, .int .i64 6, .int .i64 1, .int .i64 6, .int .i64 0, .int .i64 1, .int .i64 0, .int .i64 1, .int .i64 0, .int .i64 1, .int .i64 0, .int .i64 1, .int .i64 0, .int .i64 1, .int .i64 0, .int .i64 1] := rfl
  rw [e0] at hn
  have e1 : (.agg (tmV std6).toArray : Value) = .agg #[.string ⟨#[121, 111, 117, 110, 103]⟩, .bool false, .int .i64 11, .int .i64 1, .int .i64 6, .int .i64 1, .int .i64 6, .int .i64 1, .int .i64 6, .int .i64 1, .int .i64 6, .int .i64 1, .int .i64 6, .int .i64 1, .int .i64 6, .int .i64 0, .int .i64 1, .int .i64 0, .int .i64 1, .int .i64 0, .int .i64 1, .int .i64 0, .int .i64 1, .int .i64 0, .int .i64 1, .int .i64 0, .int .i64 1] := rfl
  have HBT : Hid (Tryd.prog.built 38 [(0, .string ⟨#[121, 111, 117, 110, 103]⟩), (2, .int .i64 11), (3, .agg #[.int .i64 1, .int .i64 6, .int .i64 1, .int .i64 6, .int .i64 1, .int .i64 6, .int .i64 1, .int .i64 6, .int .i64 1, .int .i64 6, .int .i64 1, .int .i64 6, .int .i64 0, .int .i64 1, .int .i64 0, .int .i64 1, .int .i64 0, .int .i64 1, .int .i64 0, .int .i64 1, .int .i64 0, .int .i64 1, .int .i64 0, .int .i64 1])] = some (tmV std6).toArray) := Lib.hid (by kernel_rfl)
  have HN := Lib.hid hn
  have HR0 := Lib.hid hr0
  have HB0 := Lib.hid hb0
  have HSZ := Lib.hid (szT (T := std6) rfl)
  clear hw1
  clear hn hr0 hb0 e0
  have HE1 := Lib.hid e1
  clear e1
  go_enter Tryd.func87, Tryd.ntmps87
  go_wp2_with fail
  refine HN.out.mono ?_
  rintro e w1 ⟨he, hb1⟩
  subst he
  have hr := HR0.out.up hb1
  have hb := HB0.out.trans (hb1.mono HB0.out.size)
  have hth : w1.there w.heap.size 0 27 := hr.there (by rw [tmV_len]; exact Nat.le_refl _)
  have hr4 := hr.setCells (tmV std6) 0 _ _ (by rw [tmV_len, tmV_len]; exact Nat.le_refl _)
  have HTH := Lib.hid hth
  have HB := Lib.hid hb
  have HR4 : Hid (RowV (w1.setCells w.heap.size 0 (tmV std6)) w.heap.size 38 (tmV std6)) := Lib.hid hr4
  clear hr hb hb1 hth hr4 HN HR0 HB0
  go_wp2_with (first | ((show wpList _ _ _ (⟨_, .build _ _, _, _, _, _⟩ :: _) _ _); refine wpList_built rfl 38 _ rfl (tmV std6).toArray [(0, .string ⟨#[121, 111, 117, 110, 103]⟩), (2, .int .i64 11), (3, .agg #[.int .i64 1, .int .i64 6, .int .i64 1, .int .i64 6, .int .i64 1, .int .i64 6, .int .i64 1, .int .i64 6, .int .i64 1, .int .i64 6, .int .i64 1, .int .i64 6, .int .i64 0, .int .i64 1, .int .i64 0, .int .i64 1, .int .i64 0, .int .i64 1, .int .i64 0, .int .i64 1, .int .i64 0, .int .i64 1, .int .i64 0, .int .i64 1])] (by rw [List.map_toArray]; rfl) HBT.out ?_) | ((show wpList _ _ _ (⟨_, .store _ _ _, _, _, _, _⟩ :: _) _ _); refine wpList_store_mid rfl 38 _ _ rfl w.heap.size 0 (tmV std6).toArray rfl rfl HTH.out HSZ.out (oneT _) ?_))
  exact bodyPost_ret (v := .tuple #[.agg (tmV std6).toArray, .int .i64 0]) (results_cell_tmp (a := 2) (b := 3) rfl rfl (run_loadVar_mid _ _ 0 _ (tmV std6) _ HR4.out.all Tryd.underlying38 rfl HSZ.out)) rfl ⟨rfl, below_setCells _ _ _ HB.out (Nat.le_refl _)⟩
end Go.Proofs.YtkoghdgfllichaaDoor.Tp
