import Derived.Test.YtkoghdgfllichaaDoorTAD
namespace Go.Proofs.YtkoghdgfllichaaDoor.Tp
open Go.RowKit

theorem yieldsIf_build {P : Program} {ops : Array Oper} {S : World → Prop} {op : Oper} {a : Act} (hw : Region.wanted op (yielded ops a.tmps) = true) (t : TypeId) (parts : Array (Nat × Operand)) (ho : op.op = .build t parts) {C : Array Value}
    (LL : List (Nat × Value)) (he : (parts.map fun (i, x) => (i, a.eval x)).toList = LL) (hb : P.built t LL = some C) : YieldsIf P ops S op (.agg C) a :=
  .inl ⟨hw, fun w _ => by
    unfold execOp
    simp only [ho, Sem.run_bind, run_build w t _ C ((congrArg (P.built t) he).trans hb), Result.andThen_ok]
    rfl⟩
def turS (T : Tm) (b : Nat) (P0 : List (Int × Int)) : Nat → List (Int × Int)
  | 0 => P0
  | n + 1 => (turS T b P0 n).set ((n + 7 * b) % 12) (psN T n)
theorem turS_len (T : Tm) (b : Nat) (P0 : List (Int × Int)) : ∀ n, (turS T b P0 n).length = P0.length
  | 0 => rfl
  | n + 1 => by show ((turS T b P0 n).set _ _).length = _; rw [List.length_set, turS_len T b P0 n]
theorem turS_at {T : Tm} {b p : Nat} {P0 : List (Int × Int)} (hl : P0.length = 12) (hp : p < 12) : ∀ {n : Nat}, n ≤ 12 → (turS T b P0 n)[p]? = if (p + 5 * b) % 12 < n then some (psN T ((p + 5 * b) % 12)) else P0[p]?
  | 0, _ => by rw [if_neg (by omega)]; rfl
  | n + 1, hn => by
    have ih := turS_at (T := T) (b := b) hl hp (n := n) (by omega)
    show ((turS T b P0 n).set ((n + 7 * b) % 12) (psN T n))[p]? = _
    by_cases e : p = (n + 7 * b) % 12
    · have e2 : (p + 5 * b) % 12 = n := by omega
      rw [e2, if_pos (by omega), ← e, List.getElem?_set_self (by rw [turS_len, hl]; exact hp)]
    · have e2 : (p + 5 * b) % 12 ≠ n := by omega
      rw [List.getElem?_set_ne (fun h => e h.symm), ih]
      by_cases h : (p + 5 * b) % 12 < n
      · rw [if_pos h, if_pos (by omega)]
      · rw [if_neg h, if_neg (by omega)]
def turnT (T : Tm) (b m : Nat) : Tm := ⟨T.nm, T.sy, (m : Int), turS T b (onesP 0) 12⟩
theorem turnT_len (T : Tm) (b m : Nat) : (turnT T b m).ps.length = 12 := by show (turS T b (onesP 0) 12).length = 12; rw [turS_len]; rfl
theorem tmV_set {T : Tm} {q : Nat} {n0 d0 : Int} (n d : Int) (h : T.ps[q]? = some (n0, d0)) : ((tmV T).set (3 + q * 2) (.int .i64 n)).set (3 + q * 2 + 1) (.int .i64 d) = tmV ⟨T.nm, T.sy, T.wo, T.ps.set q (n, d)⟩ := by
  have e : ∀ (a b c : Value) (L : List Value) (k : Nat) (v : Value), (a :: b :: c :: L).set (3 + k) v = a :: b :: c :: L.set k v := fun a b c L k v => by rw [show 3 + k = k + 1 + 1 + 1 by omega]; rfl
  unfold tmV
  rw [e, show 3 + q * 2 + 1 = 3 + (q * 2 + 1) by omega, e, fl2_set0 n h]
  have h2 : (T.ps.set q (n, d0))[q]? = some (n, d0) := List.getElem?_set_self (List.getElem?_eq_some_iff.1 h).1
  rw [fl2_set d h2, List.set_set]
theorem tmV_put (T : Tm) (h : T.ps.length = 12) : (tmV tm0).take 0 ++ tmV T ++ (tmV tm0).drop (0 + (tmV T).length) = tmV T := by
  rw [List.drop_eq_nil_of_le (by rw [tmV_len, tmV_len, h]; decide)]; simp
theorem nm_small {T : Tm} (h : chkT T = 0) : T.nm.size ≤ 16 := by
  have hf := (chk_ok h).2.1
  unfold formedT nameB' Wn.nameB at hf
  simp only [Bool.and_eq_true, decide_eq_true_eq] at hf
  have := hf.2.1.1.1.2
  show T.nm.data.size ≤ 16
  rw [← Array.length_toList]; exact this
def TuRel (w : World) (T : Tm) (b m gT : Nat) (iv : Value) (wr : World) : Prop :=
  ∃ i : Nat, i ≤ 12 ∧ iv = .int .i64 (i : Int) ∧ RowV wr (w.heap.size + 1) 38 (tmV tm0) ∧ RowV wr gT 38 (tmV ⟨T.nm, T.sy, (m : Int), turS T b (onesP 0) i⟩) ∧ Below w.heap.size w wr
end Go.Proofs.YtkoghdgfllichaaDoor.Tp
namespace Go.Proofs.YtkoghdgfllichaaDoor.Tp
open Go.RowKit

def MaRel (w : World) (nm : ByteArray) (sy : Bool) (wo : Int) (iv : Value) (wr : World) : Prop := ∃ i : Nat, i ≤ 12 ∧ iv = .int .i64 (i : Int) ∧ RowV wr w.heap.size 38 (tmV tm0) ∧ RowV wr (w.heap.size + 1) 38 (tmV ⟨nm, sy, wo, onesP i⟩) ∧ Below w.heap.size w wr
def MbRel (w : World) (nm : ByteArray) (sy : Bool) (wo den : Int) (L : List Nat) (iv : Value) (wr : World) : Prop := ∃ j : Nat, j ≤ L.length ∧ iv = .int .i64 (j : Int) ∧ RowV wr w.heap.size 38 (tmV tm0) ∧ RowV wr (w.heap.size + 1) 38 (tmV ⟨nm, sy, wo, narP den (L.take j)⟩) ∧ Below w.heap.size w wr
set_option maxRecDepth 100000 in
set_option maxHeartbeats 4000000 in
theorem made_any (nm : ByteArray) (sy : Bool) (wo den : Int) (L : List Nat) (A : Option Addr) (cap : Nat) (w : World) (hL : L.length ≤ 12) (h12 : ∀ x ∈ L, x < 12)
    (hA : ∀ j x : Nat, L[j]? = some x → ∃ g, A = some ⟨g, 0, none⟩ ∧ g < w.heap.size ∧ w.cell? ⟨g, j, none⟩ = some (.int .i64 (x : Int))) :
    Calls Tryd.prog 130 #[.string nm, .bool sy, .int .i64 wo, .int .i64 den, .slice A L.length cap] w fun e w' => e = .returned (.agg (tmV ⟨nm, sy, wo, narP den L⟩).toArray) ∧ Below w.heap.size w w' := by
  have hz := zero26
  have hr0 : RowV ((w.alloc (.cells (tmV tm0).toArray 38)).alloc (.cells (tmV tm0).toArray 38)) w.heap.size 38 (tmV tm0) := (RowV.of_alloc w 38 (tmV tm0)).alloc _
  have hr1 : RowV ((w.alloc (.cells (tmV tm0).toArray 38)).alloc (.cells (tmV tm0).toArray 38)) (w.heap.size + 1) 38 (tmV tm0) := by
    have h := RowV.of_alloc (w.alloc (.cells (tmV tm0).toArray 38)) 38 (tmV tm0)
    rw [World.size_alloc] at h
    exact h
  have hb : Below w.heap.size w ((w.alloc (.cells (tmV tm0).toArray 38)).alloc (.cells (tmV tm0).toArray 38)) := (belB w _).alloc (by simp) _
  obtain ⟨TM, hTM⟩ : ∃ TM : Tm, TM = ⟨nm, sy, wo, onesP 0⟩ := ⟨_, rfl⟩
  have htl : TM.ps.length = 12 := by rw [hTM]; rfl
  have HBT : Hid (Tryd.prog.built 38 [(0, .string nm), (1, .bool sy), (2, .int .i64 wo)] = some (tmV TM).toArray) := Lib.hid (by rw [hTM]; kernel_rfl)
  have hth := hr1.there (o := 0) (n := (tmV TM).toArray.size) (by rw [List.size_toArray, tmV_len, tmV_len, htl]; decide)
  have h1 := hr1.setCells (tmV TM) 0 _ _ (by rw [tmV_len, tmV_len, htl]; decide)
  rw [tmV_put TM htl, hTM] at h1
  have h0 : RowV (((w.alloc (.cells (tmV tm0).toArray 38)).alloc (.cells (tmV tm0).toArray 38)).setCells (w.heap.size + 1) 0 (tmV TM)) w.heap.size 38 (tmV tm0) :=
    (RowV.of_alloc w 38 (tmV tm0)).up (below_setCells (g := w.heap.size + 1) (tmV TM) 0 _ (belB (w.alloc (.cells (tmV tm0).toArray 38)) (.cells (tmV tm0).toArray 38)) (by simp))
  have hb2 := below_setCells (g := w.heap.size + 1) (tmV TM) 0 _ hb (by omega)
  have HSZM := Lib.hid (szT (T := TM) htl)
  rw [← hTM] at h1
  have HTM := Lib.hid hTM
  have HTH := Lib.hid hth
  have HR0 := Lib.hid h0
  have HR1 := Lib.hid h1
  have HB := Lib.hid hb2
  have HLL := Lib.hid hL
  have H12 := Lib.hid h12
  have HAA := Lib.hid hA
  have hLI : (L.length : Int) ≤ 12 := by omega
  clear hr0 hr1 hb hL h12 hA hTM htl hth h1 h0 hb2
  go_enter Tryd.func130, Tryd.ntmps130
  go_wp2_with (first | ((show wpList _ _ _ (⟨_, .build _ _, _, _, _, _⟩ :: _) _ _); refine wpList_built rfl 38 _ rfl (tmV TM).toArray [(0, .string nm), (1, .bool sy), (2, .int .i64 wo)] (by rw [List.map_toArray]; rfl) HBT.out ?_) | ((show wpList _ _ _ (⟨_, .store _ _ _, _, _, _, _⟩ :: _) _ _); refine wpList_store_mid rfl 38 _ _ rfl (w.heap.size + 1) 0 (tmV TM).toArray rfl rfl HTH.out HSZM.out (oneT TM) ?_))
  go_loopw [12] (fun iv wr => MaRel w nm sy wo iv wr) (fun iv _ => 12 - (intOf iv).toNat)
  case atStart => exact ⟨0, Nat.zero_le _, rfl, HR0.out, by have h := HR1.out; rw [HTM.out] at h; rw [HTM.out]; exact h, HB.out⟩
  case round =>
    clear HR0 HR1 HB HTH HBT HSZM
    obtain ⟨i, hi, rfl, h0, h1, hb⟩ := hrel
    have H0 := Lib.hid h0
    have H1 := Lib.hid h1
    have HB := Lib.hid hb
    clear h0 h1 hb
    by_cases hil : i < 12
    · have hilI : (i : Int) < 12 := by omega
      obtain ⟨c3, c4⟩ := part_cells (T := ⟨nm, sy, wo, onesP i⟩) H1.out (onesP_at hil)
      have e : wr.heap[w.heap.size + 1]? = some (.cells (tmV ⟨nm, sy, wo, onesP i⟩).toArray 38 (0, 0)) := H1.out
      have z3 : wr.frozen? ⟨w.heap.size + 1, 3 + i * 2, none⟩ = false := by unfold World.frozen?; simp only [e]; rfl
      have z4 : wr.frozen? ⟨w.heap.size + 1, 3 + i * 2 + 1, none⟩ = false := by unfold World.frozen?; simp only [e]; rfl
      clear e
      go_wp2
      refine ⟨⟨i + 1, by omega, by go_num, ?_, ?_, (HB.out.setCell (show w.heap.size ≤ w.heap.size + 1 by omega) _).setCell (show w.heap.size ≤ w.heap.size + 1 by omega) _⟩, by simp [intOf]; omega⟩
      · exact (setCell_heap (Nat.ne_of_lt (by omega))).trans ((setCell_heap (Nat.ne_of_lt (by omega))).trans H0.out)
      · have h := (H1.out.setCell (3 + i * 2) (.int .i64 0)).setCell (3 + i * 2 + 1) (.int .i64 1)
        rw [tmV_set (T := ⟨nm, sy, wo, onesP i⟩) 0 1 (onesP_at hil)] at h
        simp only [onesP_set hil] at h
        exact h
    · obtain rfl : i = 12 := by omega
      go_wp2
      go_loopw [13] (fun iv wr => MbRel w nm sy wo den L iv wr) (fun iv _ => L.length - (intOf iv).toNat)
      case atStart => exact ⟨0, Nat.zero_le _, rfl, H0.out, H1.out, HB.out⟩
      case round =>
        clear H0 H1 HB
        obtain ⟨j, hj, rfl, h0, h1, hb⟩ := hrel
        have H0 := Lib.hid h0
        have H1 := Lib.hid h1
        have HB := Lib.hid hb
        clear h0 h1 hb
        by_cases hjl : j < L.length
        · obtain ⟨x, hx⟩ : ∃ x, L[j]? = some x := ⟨L[j], List.getElem?_eq_getElem _⟩
          have hx12 := H12.out x (List.mem_of_getElem? hx)
          obtain ⟨g, rfl, hg, hc⟩ := HAA.out j x hx
          have hxI : (x : Int) < 12 := by omega
          have hc2 : wr.cell? ⟨g, j, none⟩ = some (.int .i64 (x : Int)) := by rw [HB.out.cell (p := ⟨g, j, none⟩) hg]; exact hc
          obtain ⟨⟨n0, d0⟩, hp⟩ : ∃ p, (narP den (L.take j))[x]? = some p := ⟨(narP den (L.take j))[x]'(by rw [narP_len]; exact hx12), List.getElem?_eq_getElem _⟩
          obtain ⟨c3, c4⟩ := part_cells (T := ⟨nm, sy, wo, narP den (L.take j)⟩) H1.out hp
          have e : wr.heap[w.heap.size + 1]? = some (.cells (tmV ⟨nm, sy, wo, narP den (L.take j)⟩).toArray 38 (0, 0)) := H1.out
          have z3 : wr.frozen? ⟨w.heap.size + 1, 3 + x * 2, none⟩ = false := by unfold World.frozen?; simp only [e]; rfl
          have z4 : wr.frozen? ⟨w.heap.size + 1, 3 + x * 2 + 1, none⟩ = false := by unfold World.frozen?; simp only [e]; rfl
          have hjI : (j : Int) < (L.length : Int) := by omega
          have HXX := Lib.hid hx
          have HPP := Lib.hid hp
          clear e hx hp hc
          go_wp2
          refine ⟨⟨j + 1, by omega, by go_num, ?_, ?_, (HB.out.setCell (show w.heap.size ≤ w.heap.size + 1 by omega) _).setCell (show w.heap.size ≤ w.heap.size + 1 by omega) _⟩, by simp [intOf]; omega⟩
          · exact (setCell_heap (Nat.ne_of_lt (by omega))).trans ((setCell_heap (Nat.ne_of_lt (by omega))).trans H0.out)
          · have h := (H1.out.setCell (3 + x * 2) (.int .i64 1)).setCell (3 + x * 2 + 1) (.int .i64 den)
            rw [tmV_set (T := ⟨nm, sy, wo, narP den (L.take j)⟩) 1 den HPP.out] at h
            simp only [← narP_take HXX.out] at h
            exact h
        · obtain rfl : j = L.length := by omega
          have h1 := H1.out
          rw [List.take_length] at h1
          obtain ⟨TF, hTF⟩ : ∃ TF : Tm, TF = ⟨nm, sy, wo, narP den L⟩ := ⟨_, rfl⟩
          have htl : TF.ps.length = 12 := by rw [hTF]; exact narP_len den L
          rw [← hTF] at h1
          have hsz := szT htl
          have hth : wr.there w.heap.size 0 (tmV TF).toArray.size := H0.out.there (by rw [List.size_toArray, tmV_len, tmV_len, htl]; decide)
          have hr4 := H0.out.setCells (tmV TF) 0 _ _ (by rw [tmV_len, tmV_len, htl]; decide)
          rw [tmV_put _ htl] at hr4
          have H1A := Lib.hid h1.all
          have HSZ := Lib.hid hsz
          have HTH := Lib.hid hth
          have HR4 := Lib.hid hr4
          have HTF := Lib.hid hTF
          clear h1 hsz hth hr4 H1 htl hTF
          go_wp2_with (first | ((show wpList _ _ _ (⟨_, .load _ _, _, _, _, _⟩ :: _) _ _); refine wpList_load_mid rfl 38 _ rfl (w.heap.size + 1) 0 rfl (tmV TF) _ H1A.out Tryd.underlying38 rfl HSZ.out ?_) | ((show wpList _ _ _ (⟨_, .store _ _ _, _, _, _, _⟩ :: _) _ _); refine wpList_store_mid rfl 38 _ _ rfl w.heap.size 0 (tmV TF).toArray rfl rfl HTH.out HSZ.out (oneT _) ?_))
          exact bodyPost_ret (v := .agg (tmV TF).toArray) (results_cell rfl rfl (run_loadVar_mid _ _ 0 _ _ _ HR4.out.all Tryd.underlying38 rfl HSZ.out)) rfl ⟨by rw [HTF.out], below_setCells _ _ _ HB.out (Nat.le_refl _)⟩
end Go.Proofs.YtkoghdgfllichaaDoor.Tp
namespace Go.Proofs.YtkoghdgfllichaaDoor.Tp
open Go.RowKit

set_option maxRecDepth 100000 in
set_option maxHeartbeats 1000000 in
theorem rStandard0 (w : World) : Calls Tryd.prog 100 #[.string ⟨#[101, 113, 117, 97, 108]⟩] w fun e w' => e = .returned (.tuple #[.agg (tmV std0).toArray, .int .i64 0]) ∧ Below w.heap.size w w' := by
  have hz := zero26
  have hr0 : RowV ((w.alloc (.cells (tmV tm0).toArray 38)).alloc (.cells #[.int .i64 0, .int .i64 1, .int .i64 2, .int .i64 3, .int .i64 4, .int .i64 5, .int .i64 6, .int .i64 7, .int .i64 8, .int .i64 9, .int .i64 10] 3)) w.heap.size 38 (tmV tm0) := (RowV.of_alloc w 38 (tmV tm0)).alloc _
  have hb0 : Below w.heap.size w ((w.alloc (.cells (tmV tm0).toArray 38)).alloc (.cells #[.int .i64 0, .int .i64 1, .int .i64 2, .int .i64 3, .int .i64 4, .int .i64 5, .int .i64 6, .int .i64 7, .int .i64 8, .int .i64 9, .int .i64 10] 3)) := ((belB w _).alloc (by simp) _)
  have hw1 : RowI ((w.alloc (.cells (tmV tm0).toArray 38)).alloc (.cells #[.int .i64 0, .int .i64 1, .int .i64 2, .int .i64 3, .int .i64 4, .int .i64 5, .int .i64 6, .int .i64 7, .int .i64 8, .int .i64 9, .int .i64 10] 3)) (w.heap.size + 1) 3 [0, 1, 2, 3, 4, 5, 6, 7, 8, 9, 10] := by
    have h := RowI.of_alloc (w.alloc (.cells (tmV tm0).toArray 38)) 3 [0, 1, 2, 3, 4, 5, 6, 7, 8, 9, 10]
    rw [World.size_alloc] at h
    exact h
  have hn := made_any ⟨#[101, 113, 117, 97, 108]⟩ false 11 12 [0, 1, 2, 3, 4, 5, 6, 7, 8, 9, 10] (some ⟨w.heap.size + 1, 0, none⟩) 11 ((w.alloc (.cells (tmV tm0).toArray 38)).alloc (.cells #[.int .i64 0, .int .i64 1, .int .i64 2, .int .i64 3, .int .i64 4, .int .i64 5, .int .i64 6, .int .i64 7, .int .i64 8, .int .i64 9, .int .i64 10] 3)) (by decide) (by decide) (fun j x hx => ⟨w.heap.size + 1, rfl, hw1.lt, by
    refine hw1.cell (i := j) ?_
    have h2 : ([0, 1, 2, 3, 4, 5, 6, 7, 8, 9, 10].map (fun x : Nat => (x : Int)))[j]? = some (x : Int) := by rw [List.getElem?_map, hx]; rfl
    exact h2⟩)
  have e0 : (⟨⟨#[101, 113, 117, 97, 108]⟩, false, 11, narP 12 [0, 1, 2, 3, 4, 5, 6, 7, 8, 9, 10]⟩ : Tm) = std0 := rfl
  rw [e0] at hn
  have HN := Lib.hid hn
  have HR0 := Lib.hid hr0
  have HB0 := Lib.hid hb0
  have HSZ := Lib.hid (szT (T := std0) rfl)
  clear hw1
  clear hn hr0 hb0 e0
  go_enter Tryd.func100, Tryd.ntmps100
  go_wp2_with fail
  refine HN.out.mono ?_
  rintro e w1 ⟨he, hb1⟩
  subst he
  have hr := HR0.out.up hb1
  have hb := HB0.out.trans (hb1.mono HB0.out.size)
  have hth : w1.there w.heap.size 0 27 := hr.there (by rw [tmV_len]; exact Nat.le_refl _)
  have hr4 := hr.setCells (tmV std0) 0 _ _ (by rw [tmV_len, tmV_len]; exact Nat.le_refl _)
  have HTH := Lib.hid hth
  have HB := Lib.hid hb
  have HR4 : Hid (RowV (w1.setCells w.heap.size 0 (tmV std0)) w.heap.size 38 (tmV std0)) := Lib.hid hr4
  clear hr hb hb1 hth hr4 HN HR0 HB0
  go_wp2_with ((show wpList _ _ _ (⟨_, .store _ _ _, _, _, _, _⟩ :: _) _ _); refine wpList_store_mid rfl 38 _ _ rfl w.heap.size 0 (tmV std0).toArray rfl rfl HTH.out HSZ.out (oneT _) ?_)
  exact bodyPost_ret (v := .tuple #[.agg (tmV std0).toArray, .int .i64 0]) (results_cell_tmp (a := 2) (b := 3) rfl rfl (run_loadVar_mid _ _ 0 _ (tmV std0) _ HR4.out.all Tryd.underlying38 rfl HSZ.out)) rfl ⟨rfl, below_setCells _ _ _ HB.out (Nat.le_refl _)⟩
set_option maxRecDepth 100000 in
set_option maxHeartbeats 1000000 in
theorem rStandard1 (w : World) : Calls Tryd.prog 100 #[.string ⟨#[112, 121, 116, 104, 97, 103, 111, 114, 101, 97, 110]⟩] w fun e w' => e = .returned (.tuple #[.agg (tmV std1).toArray, .int .i64 0]) ∧ Below w.heap.size w w' := by
  have hz := zero26
  have hr0 : RowV (w.alloc (.cells (tmV tm0).toArray 38)) w.heap.size 38 (tmV tm0) := RowV.of_alloc w 38 (tmV tm0)
  have hb0 : Below w.heap.size w (w.alloc (.cells (tmV tm0).toArray 38)) := (belB w _)
  have hn := made_any ⟨#[112, 121, 116, 104, 97, 103, 111, 114, 101, 97, 110]⟩ false 8 1 [] none 0 (w.alloc (.cells (tmV tm0).toArray 38)) (by decide) (by decide) (fun j x hx => by cases hx)
  have e0 : (⟨⟨#[112, 121, 116, 104, 97, 103, 111, 114, 101, 97, 110]⟩, false, 8, narP 1 []⟩ : Tm) = std1 := rfl
  rw [e0] at hn
  have HN := Lib.hid hn
  have HR0 := Lib.hid hr0
  have HB0 := Lib.hid hb0
  have HSZ := Lib.hid (szT (T := std1) rfl)
  skip
  clear hn hr0 hb0 e0
  go_enter Tryd.func100, Tryd.ntmps100
  go_wp2_with fail
  refine HN.out.mono ?_
  rintro e w1 ⟨he, hb1⟩
  subst he
  have hr := HR0.out.up hb1
  have hb := HB0.out.trans (hb1.mono HB0.out.size)
  have hth : w1.there w.heap.size 0 27 := hr.there (by rw [tmV_len]; exact Nat.le_refl _)
  have hr4 := hr.setCells (tmV std1) 0 _ _ (by rw [tmV_len, tmV_len]; exact Nat.le_refl _)
  have HTH := Lib.hid hth
  have HB := Lib.hid hb
  have HR4 : Hid (RowV (w1.setCells w.heap.size 0 (tmV std1)) w.heap.size 38 (tmV std1)) := Lib.hid hr4
  clear hr hb hb1 hth hr4 HN HR0 HB0
  go_wp2_with ((show wpList _ _ _ (⟨_, .store _ _ _, _, _, _, _⟩ :: _) _ _); refine wpList_store_mid rfl 38 _ _ rfl w.heap.size 0 (tmV std1).toArray rfl rfl HTH.out HSZ.out (oneT _) ?_)
  exact bodyPost_ret (v := .tuple #[.agg (tmV std1).toArray, .int .i64 0]) (results_cell_tmp (a := 2) (b := 3) rfl rfl (run_loadVar_mid _ _ 0 _ (tmV std1) _ HR4.out.all Tryd.underlying38 rfl HSZ.out)) rfl ⟨rfl, below_setCells _ _ _ HB.out (Nat.le_refl _)⟩
set_option maxRecDepth 100000 in
set_option maxHeartbeats 1000000 in
theorem rStandard2 (w : World) : Calls Tryd.prog 100 #[.string ⟨#[109, 101, 97, 110, 116, 111, 110, 101]⟩] w fun e w' => e = .returned (.tuple #[.agg (tmV std2).toArray, .int .i64 0]) ∧ Below w.heap.size w w' := by
  have hz := zero26
  have hr0 : RowV ((w.alloc (.cells (tmV tm0).toArray 38)).alloc (.cells #[.int .i64 0, .int .i64 1, .int .i64 2, .int .i64 3, .int .i64 4, .int .i64 5, .int .i64 6, .int .i64 7, .int .i64 9, .int .i64 10, .int .i64 11] 3)) w.heap.size 38 (tmV tm0) := (RowV.of_alloc w 38 (tmV tm0)).alloc _
  have hb0 : Below w.heap.size w ((w.alloc (.cells (tmV tm0).toArray 38)).alloc (.cells #[.int .i64 0, .int .i64 1, .int .i64 2, .int .i64 3, .int .i64 4, .int .i64 5, .int .i64 6, .int .i64 7, .int .i64 9, .int .i64 10, .int .i64 11] 3)) := ((belB w _).alloc (by simp) _)
  have hw1 : RowI ((w.alloc (.cells (tmV tm0).toArray 38)).alloc (.cells #[.int .i64 0, .int .i64 1, .int .i64 2, .int .i64 3, .int .i64 4, .int .i64 5, .int .i64 6, .int .i64 7, .int .i64 9, .int .i64 10, .int .i64 11] 3)) (w.heap.size + 1) 3 [0, 1, 2, 3, 4, 5, 6, 7, 9, 10, 11] := by
    have h := RowI.of_alloc (w.alloc (.cells (tmV tm0).toArray 38)) 3 [0, 1, 2, 3, 4, 5, 6, 7, 9, 10, 11]
    rw [World.size_alloc] at h
    exact h
  have hn := made_any ⟨#[109, 101, 97, 110, 116, 111, 110, 101]⟩ true 8 4 [0, 1, 2, 3, 4, 5, 6, 7, 9, 10, 11] (some ⟨w.heap.size + 1, 0, none⟩) 11 ((w.alloc (.cells (tmV tm0).toArray 38)).alloc (.cells #[.int .i64 0, .int .i64 1, .int .i64 2, .int .i64 3, .int .i64 4, .int .i64 5, .int .i64 6, .int .i64 7, .int .i64 9, .int .i64 10, .int .i64 11] 3)) (by decide) (by decide) (fun j x hx => ⟨w.heap.size + 1, rfl, hw1.lt, by
    refine hw1.cell (i := j) ?_
    have h2 : ([0, 1, 2, 3, 4, 5, 6, 7, 9, 10, 11].map (fun x : Nat => (x : Int)))[j]? = some (x : Int) := by rw [List.getElem?_map, hx]; rfl
    exact h2⟩)
  have e0 : (⟨⟨#[109, 101, 97, 110, 116, 111, 110, 101]⟩, true, 8, narP 4 [0, 1, 2, 3, 4, 5, 6, 7, 9, 10, 11]⟩ : Tm) = std2 := rfl
  rw [e0] at hn
  have HN := Lib.hid hn
  have HR0 := Lib.hid hr0
  have HB0 := Lib.hid hb0
  have HSZ := Lib.hid (szT (T := std2) rfl)
  clear hw1
  clear hn hr0 hb0 e0
  go_enter Tryd.func100, Tryd.ntmps100
  go_wp2_with fail
  refine HN.out.mono ?_
  rintro e w1 ⟨he, hb1⟩
  subst he
  have hr := HR0.out.up hb1
  have hb := HB0.out.trans (hb1.mono HB0.out.size)
  have hth : w1.there w.heap.size 0 27 := hr.there (by rw [tmV_len]; exact Nat.le_refl _)
  have hr4 := hr.setCells (tmV std2) 0 _ _ (by rw [tmV_len, tmV_len]; exact Nat.le_refl _)
  have HTH := Lib.hid hth
  have HB := Lib.hid hb
  have HR4 : Hid (RowV (w1.setCells w.heap.size 0 (tmV std2)) w.heap.size 38 (tmV std2)) := Lib.hid hr4
  clear hr hb hb1 hth hr4 HN HR0 HB0
  go_wp2_with ((show wpList _ _ _ (⟨_, .store _ _ _, _, _, _, _⟩ :: _) _ _); refine wpList_store_mid rfl 38 _ _ rfl w.heap.size 0 (tmV std2).toArray rfl rfl HTH.out HSZ.out (oneT _) ?_)
  exact bodyPost_ret (v := .tuple #[.agg (tmV std2).toArray, .int .i64 0]) (results_cell_tmp (a := 2) (b := 3) rfl rfl (run_loadVar_mid _ _ 0 _ (tmV std2) _ HR4.out.all Tryd.underlying38 rfl HSZ.out)) rfl ⟨rfl, below_setCells _ _ _ HB.out (Nat.le_refl _)⟩
set_option maxRecDepth 100000 in
set_option maxHeartbeats 1000000 in
theorem rStandard3 (w : World) : Calls Tryd.prog 100 #[.string ⟨#[119, 101, 114, 99, 107, 109, 101, 105, 115, 116, 101, 114]⟩] w fun e w' => e = .returned (.tuple #[.agg (tmV std3).toArray, .int .i64 0]) ∧ Below w.heap.size w w' := by
  have hz := zero26
  have hr0 : RowV ((w.alloc (.cells (tmV tm0).toArray 38)).alloc (.cells #[.int .i64 0, .int .i64 1, .int .i64 2, .int .i64 5] 3)) w.heap.size 38 (tmV tm0) := (RowV.of_alloc w 38 (tmV tm0)).alloc _
  have hb0 : Below w.heap.size w ((w.alloc (.cells (tmV tm0).toArray 38)).alloc (.cells #[.int .i64 0, .int .i64 1, .int .i64 2, .int .i64 5] 3)) := ((belB w _).alloc (by simp) _)
  have hw1 : RowI ((w.alloc (.cells (tmV tm0).toArray 38)).alloc (.cells #[.int .i64 0, .int .i64 1, .int .i64 2, .int .i64 5] 3)) (w.heap.size + 1) 3 [0, 1, 2, 5] := by
    have h := RowI.of_alloc (w.alloc (.cells (tmV tm0).toArray 38)) 3 [0, 1, 2, 5]
    rw [World.size_alloc] at h
    exact h
  have hn := made_any ⟨#[119, 101, 114, 99, 107, 109, 101, 105, 115, 116, 101, 114]⟩ false 11 4 [0, 1, 2, 5] (some ⟨w.heap.size + 1, 0, none⟩) 4 ((w.alloc (.cells (tmV tm0).toArray 38)).alloc (.cells #[.int .i64 0, .int .i64 1, .int .i64 2, .int .i64 5] 3)) (by decide) (by decide) (fun j x hx => ⟨w.heap.size + 1, rfl, hw1.lt, by
    refine hw1.cell (i := j) ?_
    have h2 : ([0, 1, 2, 5].map (fun x : Nat => (x : Int)))[j]? = some (x : Int) := by rw [List.getElem?_map, hx]; rfl
    exact h2⟩)
  have e0 : (⟨⟨#[119, 101, 114, 99, 107, 109, 101, 105, 115, 116, 101, 114]⟩, false, 11, narP 4 [0, 1, 2, 5]⟩ : Tm) = std3 := rfl
  rw [e0] at hn
  have HN := Lib.hid hn
  have HR0 := Lib.hid hr0
  have HB0 := Lib.hid hb0
  have HSZ := Lib.hid (szT (T := std3) rfl)
  clear hw1
  clear hn hr0 hb0 e0
  go_enter Tryd.func100, Tryd.ntmps100
  go_wp2_with fail
  refine HN.out.mono ?_
  rintro e w1 ⟨he, hb1⟩
  subst he
  have hr := HR0.out.up hb1
  have hb := HB0.out.trans (hb1.mono HB0.out.size)
  have hth : w1.there w.heap.size 0 27 := hr.there (by rw [tmV_len]; exact Nat.le_refl _)
  have hr4 := hr.setCells (tmV std3) 0 _ _ (by rw [tmV_len, tmV_len]; exact Nat.le_refl _)
  have HTH := Lib.hid hth
  have HB := Lib.hid hb
  have HR4 : Hid (RowV (w1.setCells w.heap.size 0 (tmV std3)) w.heap.size 38 (tmV std3)) := Lib.hid hr4
  clear hr hb hb1 hth hr4 HN HR0 HB0
  go_wp2_with ((show wpList _ _ _ (⟨_, .store _ _ _, _, _, _, _⟩ :: _) _ _); refine wpList_store_mid rfl 38 _ _ rfl w.heap.size 0 (tmV std3).toArray rfl rfl HTH.out HSZ.out (oneT _) ?_)
  exact bodyPost_ret (v := .tuple #[.agg (tmV std3).toArray, .int .i64 0]) (results_cell_tmp (a := 2) (b := 3) rfl rfl (run_loadVar_mid _ _ 0 _ (tmV std3) _ HR4.out.all Tryd.underlying38 rfl HSZ.out)) rfl ⟨rfl, below_setCells _ _ _ HB.out (Nat.le_refl _)⟩
set_option maxRecDepth 100000 in
set_option maxHeartbeats 1000000 in
theorem rStandard4 (w : World) : Calls Tryd.prog 100 #[.string ⟨#[107, 105, 114, 110, 98, 101, 114, 103, 101, 114]⟩] w fun e w' => e = .returned (.tuple #[.agg (tmV std4).toArray, .int .i64 0]) ∧ Below w.heap.size w w' := by
  have hz := zero26
  have hr0 : RowV ((w.alloc (.cells (tmV tm0).toArray 38)).alloc (.cells #[.int .i64 0, .int .i64 1, .int .i64 2, .int .i64 3] 3)) w.heap.size 38 (tmV tm0) := (RowV.of_alloc w 38 (tmV tm0)).alloc _
  have hb0 : Below w.heap.size w ((w.alloc (.cells (tmV tm0).toArray 38)).alloc (.cells #[.int .i64 0, .int .i64 1, .int .i64 2, .int .i64 3] 3)) := ((belB w _).alloc (by simp) _)
  have hw1 : RowI ((w.alloc (.cells (tmV tm0).toArray 38)).alloc (.cells #[.int .i64 0, .int .i64 1, .int .i64 2, .int .i64 3] 3)) (w.heap.size + 1) 3 [0, 1, 2, 3] := by
    have h := RowI.of_alloc (w.alloc (.cells (tmV tm0).toArray 38)) 3 [0, 1, 2, 3]
    rw [World.size_alloc] at h
    exact h
  have hn := made_any ⟨#[107, 105, 114, 110, 98, 101, 114, 103, 101, 114]⟩ true 6 4 [0, 1, 2, 3] (some ⟨w.heap.size + 1, 0, none⟩) 4 ((w.alloc (.cells (tmV tm0).toArray 38)).alloc (.cells #[.int .i64 0, .int .i64 1, .int .i64 2, .int .i64 3] 3)) (by decide) (by decide) (fun j x hx => ⟨w.heap.size + 1, rfl, hw1.lt, by
    refine hw1.cell (i := j) ?_
    have h2 : ([0, 1, 2, 3].map (fun x : Nat => (x : Int)))[j]? = some (x : Int) := by rw [List.getElem?_map, hx]; rfl
    exact h2⟩)
  have e0 : (⟨⟨#[107, 105, 114, 110, 98, 101, 114, 103, 101, 114]⟩, true, 6, narP 4 [0, 1, 2, 3]⟩ : Tm) = std4 := rfl
  rw [e0] at hn
  have HN := Lib.hid hn
  have HR0 := Lib.hid hr0
  have HB0 := Lib.hid hb0
  have HSZ := Lib.hid (szT (T := std4) rfl)
  clear hw1
  clear hn hr0 hb0 e0
  go_enter Tryd.func100, Tryd.ntmps100
  go_wp2_with fail
  refine HN.out.mono ?_
  rintro e w1 ⟨he, hb1⟩
  subst he
  have hr := HR0.out.up hb1
  have hb := HB0.out.trans (hb1.mono HB0.out.size)
  have hth : w1.there w.heap.size 0 27 := hr.there (by rw [tmV_len]; exact Nat.le_refl _)
  have hr4 := hr.setCells (tmV std4) 0 _ _ (by rw [tmV_len, tmV_len]; exact Nat.le_refl _)
  have HTH := Lib.hid hth
  have HB := Lib.hid hb
  have HR4 : Hid (RowV (w1.setCells w.heap.size 0 (tmV std4)) w.heap.size 38 (tmV std4)) := Lib.hid hr4
  clear hr hb hb1 hth hr4 HN HR0 HB0
  go_wp2_with ((show wpList _ _ _ (⟨_, .store _ _ _, _, _, _, _⟩ :: _) _ _); refine wpList_store_mid rfl 38 _ _ rfl w.heap.size 0 (tmV std4).toArray rfl rfl HTH.out HSZ.out (oneT _) ?_)
  exact bodyPost_ret (v := .tuple #[.agg (tmV std4).toArray, .int .i64 0]) (results_cell_tmp (a := 2) (b := 3) rfl rfl (run_loadVar_mid _ _ 0 _ (tmV std4) _ HR4.out.all Tryd.underlying38 rfl HSZ.out)) rfl ⟨rfl, below_setCells _ _ _ HB.out (Nat.le_refl _)⟩
set_option maxRecDepth 100000 in
set_option maxHeartbeats 1000000 in
theorem rStandard5 (w : World) : Calls Tryd.prog 100 #[.string ⟨#[118, 97, 108, 108, 111, 116, 116, 105]⟩] w fun e w' => e = .returned (.tuple #[.agg (tmV std5).toArray, .int .i64 0]) ∧ Below w.heap.size w w' := by
  have hz := zero26
  have hr0 : RowV ((w.alloc (.cells (tmV tm0).toArray 38)).alloc (.cells #[.int .i64 0, .int .i64 1, .int .i64 2, .int .i64 3, .int .i64 4, .int .i64 11] 3)) w.heap.size 38 (tmV tm0) := (RowV.of_alloc w 38 (tmV tm0)).alloc _
  have hb0 : Below w.heap.size w ((w.alloc (.cells (tmV tm0).toArray 38)).alloc (.cells #[.int .i64 0, .int .i64 1, .int .i64 2, .int .i64 3, .int .i64 4, .int .i64 11] 3)) := ((belB w _).alloc (by simp) _)
  have hw1 : RowI ((w.alloc (.cells (tmV tm0).toArray 38)).alloc (.cells #[.int .i64 0, .int .i64 1, .int .i64 2, .int .i64 3, .int .i64 4, .int .i64 11] 3)) (w.heap.size + 1) 3 [0, 1, 2, 3, 4, 11] := by
    have h := RowI.of_alloc (w.alloc (.cells (tmV tm0).toArray 38)) 3 [0, 1, 2, 3, 4, 11]
    rw [World.size_alloc] at h
    exact h
  have hn := made_any ⟨#[118, 97, 108, 108, 111, 116, 116, 105]⟩ false 6 6 [0, 1, 2, 3, 4, 11] (some ⟨w.heap.size + 1, 0, none⟩) 6 ((w.alloc (.cells (tmV tm0).toArray 38)).alloc (.cells #[.int .i64 0, .int .i64 1, .int .i64 2, .int .i64 3, .int .i64 4, .int .i64 11] 3)) (by decide) (by decide) (fun j x hx => ⟨w.heap.size + 1, rfl, hw1.lt, by
    refine hw1.cell (i := j) ?_
    have h2 : ([0, 1, 2, 3, 4, 11].map (fun x : Nat => (x : Int)))[j]? = some (x : Int) := by rw [List.getElem?_map, hx]; rfl
    exact h2⟩)
  have e0 : (⟨⟨#[118, 97, 108, 108, 111, 116, 116, 105]⟩, false, 6, narP 6 [0, 1, 2, 3, 4, 11]⟩ : Tm) = std5 := rfl
  rw [e0] at hn
  have HN := Lib.hid hn
  have HR0 := Lib.hid hr0
  have HB0 := Lib.hid hb0
  have HSZ := Lib.hid (szT (T := std5) rfl)
  clear hw1
  clear hn hr0 hb0 e0
  go_enter Tryd.func100, Tryd.ntmps100
  go_wp2_with fail
  refine HN.out.mono ?_
  rintro e w1 ⟨he, hb1⟩
  subst he
  have hr := HR0.out.up hb1
  have hb := HB0.out.trans (hb1.mono HB0.out.size)
  have hth : w1.there w.heap.size 0 27 := hr.there (by rw [tmV_len]; exact Nat.le_refl _)
  have hr4 := hr.setCells (tmV std5) 0 _ _ (by rw [tmV_len, tmV_len]; exact Nat.le_refl _)
  have HTH := Lib.hid hth
  have HB := Lib.hid hb
  have HR4 : Hid (RowV (w1.setCells w.heap.size 0 (tmV std5)) w.heap.size 38 (tmV std5)) := Lib.hid hr4
  clear hr hb hb1 hth hr4 HN HR0 HB0
  go_wp2_with ((show wpList _ _ _ (⟨_, .store _ _ _, _, _, _, _⟩ :: _) _ _); refine wpList_store_mid rfl 38 _ _ rfl w.heap.size 0 (tmV std5).toArray rfl rfl HTH.out HSZ.out (oneT _) ?_)
  exact bodyPost_ret (v := .tuple #[.agg (tmV std5).toArray, .int .i64 0]) (results_cell_tmp (a := 2) (b := 3) rfl rfl (run_loadVar_mid _ _ 0 _ (tmV std5) _ HR4.out.all Tryd.underlying38 rfl HSZ.out)) rfl ⟨rfl, below_setCells _ _ _ HB.out (Nat.le_refl _)⟩
set_option maxRecDepth 100000 in
set_option maxHeartbeats 1000000 in
theorem rStandard6 (w : World) : Calls Tryd.prog 100 #[.string ⟨#[121, 111, 117, 110, 103]⟩] w fun e w' => e = .returned (.tuple #[.agg (tmV std6).toArray, .int .i64 0]) ∧ Below w.heap.size w w' := by
  have hz := zero26
  have hr0 : RowV ((w.alloc (.cells (tmV tm0).toArray 38)).alloc (.cells #[.int .i64 0, .int .i64 1, .int .i64 2, .int .i64 3, .int .i64 4, .int .i64 5] 3)) w.heap.size 38 (tmV tm0) := (RowV.of_alloc w 38 (tmV tm0)).alloc _
  have hb0 : Below w.heap.size w ((w.alloc (.cells (tmV tm0).toArray 38)).alloc (.cells #[.int .i64 0, .int .i64 1, .int .i64 2, .int .i64 3, .int .i64 4, .int .i64 5] 3)) := ((belB w _).alloc (by simp) _)
  have hw1 : RowI ((w.alloc (.cells (tmV tm0).toArray 38)).alloc (.cells #[.int .i64 0, .int .i64 1, .int .i64 2, .int .i64 3, .int .i64 4, .int .i64 5] 3)) (w.heap.size + 1) 3 [0, 1, 2, 3, 4, 5] := by
    have h := RowI.of_alloc (w.alloc (.cells (tmV tm0).toArray 38)) 3 [0, 1, 2, 3, 4, 5]
    rw [World.size_alloc] at h
    exact h
  have hn := made_any ⟨#[121, 111, 117, 110, 103]⟩ false 11 6 [0, 1, 2, 3, 4, 5] (some ⟨w.heap.size + 1, 0, none⟩) 6 ((w.alloc (.cells (tmV tm0).toArray 38)).alloc (.cells #[.int .i64 0, .int .i64 1, .int .i64 2, .int .i64 3, .int .i64 4, .int .i64 5] 3)) (by decide) (by decide) (fun j x hx => ⟨w.heap.size + 1, rfl, hw1.lt, by
    refine hw1.cell (i := j) ?_
    have h2 : ([0, 1, 2, 3, 4, 5].map (fun x : Nat => (x : Int)))[j]? = some (x : Int) := by rw [List.getElem?_map, hx]; rfl
    exact h2⟩)
  have e0 : (⟨⟨#[121, 111, 117, 110, 103]⟩, false, 11, narP 6 [0, 1, 2, 3, 4, 5]⟩ : Tm) = std6 := rfl
  rw [e0] at hn
  have HN := Lib.hid hn
  have HR0 := Lib.hid hr0
  have HB0 := Lib.hid hb0
  have HSZ := Lib.hid (szT (T := std6) rfl)
  clear hw1
  clear hn hr0 hb0 e0
  go_enter Tryd.func100, Tryd.ntmps100
  go_wp2_with fail
  refine HN.out.mono ?_
  rintro e w1 ⟨he, hb1⟩
  subst he
  have hr := HR0.out.up hb1
  have hb := HB0.out.trans (hb1.mono HB0.out.size)
  have hth : w1.there w.heap.size 0 27 := hr.there (by rw [tmV_len]; exact Nat.le_refl _)
  have hr4 := hr.setCells (tmV std6) 0 _ _ (by rw [tmV_len, tmV_len]; exact Nat.le_refl _)
  have HTH := Lib.hid hth
  have HB := Lib.hid hb
  have HR4 : Hid (RowV (w1.setCells w.heap.size 0 (tmV std6)) w.heap.size 38 (tmV std6)) := Lib.hid hr4
  clear hr hb hb1 hth hr4 HN HR0 HB0
  go_wp2_with ((show wpList _ _ _ (⟨_, .store _ _ _, _, _, _, _⟩ :: _) _ _); refine wpList_store_mid rfl 38 _ _ rfl w.heap.size 0 (tmV std6).toArray rfl rfl HTH.out HSZ.out (oneT _) ?_)
  exact bodyPost_ret (v := .tuple #[.agg (tmV std6).toArray, .int .i64 0]) (results_cell_tmp (a := 2) (b := 3) rfl rfl (run_loadVar_mid _ _ 0 _ (tmV std6) _ HR4.out.all Tryd.underlying38 rfl HSZ.out)) rfl ⟨rfl, below_setCells _ _ _ HB.out (Nat.le_refl _)⟩
end Go.Proofs.YtkoghdgfllichaaDoor.Tp
