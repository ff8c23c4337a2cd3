import Derived.Test.YtkoghdgfllichaaDoorKBA
namespace Go.Proofs.YtkoghdgfllichaaDoor
open Go.RowKit

theorem belA (w : World) (o : Obj) : Below w.heap.size w (w.alloc o) := (Below.refl _ _).alloc (Nat.le_refl _) _
theorem idx6 (x0 x1 x2 x3 x4 x5 : Int) (i : Nat) (n : Int) (h : [x0, x1, x2, x3, x4, x5][i]? = some n) (w : World) :
    (Instr.index 22 (.agg #[.int .i64 x0, .int .i64 x1, .int .i64 x2, .int .i64 x3, .int .i64 x4, .int .i64 x5]) (.int .i64 (i : Int))).run Tryd.prog w = .ok (.int .i64 n) w := by
  match i, h with
  | 0, h => cases h; simp [Instr.index, run_underlying Tryd.underlying22, asIntOf, go_sem]
  | 1, h => cases h; simp [Instr.index, run_underlying Tryd.underlying22, asIntOf, go_sem]
  | 2, h => cases h; simp [Instr.index, run_underlying Tryd.underlying22, asIntOf, go_sem]
  | 3, h => cases h; simp [Instr.index, run_underlying Tryd.underlying22, asIntOf, go_sem]
  | 4, h => cases h; simp [Instr.index, run_underlying Tryd.underlying22, asIntOf, go_sem]
  | 5, h => cases h; simp [Instr.index, run_underlying Tryd.underlying22, asIntOf, go_sem]
def FiRel (l : List Int) (iv : Value) : Prop := ∃ i : Nat, i ≤ 6 ∧ iv = .int .i64 (i : Int) ∧ (∀ n ∈ l.take i, fitB n = true)
theorem fits_list {x0 x1 x2 x3 x4 x5 dn : Int} : Rt.fits ⟨⟨x0, x1, x2, x3, x4, x5⟩, dn⟩ = (([x0, x1, x2, x3, x4, x5].all fitB) && wiB dn 1 1000) := by
  unfold Rt.fits wiB
  simp only [List.all_cons, List.all_nil, Bool.and_true, Bool.and_assoc]
theorem wiB_fit (n : Int) : wiB n (-100000) 100000 = fitB n := rfl
set_option maxRecDepth 100000 in
set_option maxHeartbeats 1000000 in
theorem fits_any (x0 x1 x2 x3 x4 x5 dn : Int) (w : World) :
    Calls Tryd.prog 39 #[.agg #[.int .i64 x0, .int .i64 x1, .int .i64 x2, .int .i64 x3, .int .i64 x4, .int .i64 x5, .int .i64 dn]] w fun e w' => e = .returned (.bool (Rt.fits ⟨⟨x0, x1, x2, x3, x4, x5⟩, dn⟩)) ∧ Below w.heap.size w w' := by
  go_enter Tryd.func39, Tryd.ntmps39
  go_wp2
  go_loop [7] (fun iv => FiRel [x0, x1, x2, x3, x4, x5] iv) (fun iv => 6 - (intOf iv).toNat)
  case atStart => exact ⟨0, Nat.zero_le _, rfl, fun n h => by cases h⟩
  case round =>
    obtain ⟨i, hi, rfl, hok⟩ := hrel
    have HOK := Lib.hid hok
    clear hok
    by_cases hil : i < 6
    · obtain ⟨n, hn⟩ : ∃ n, [x0, x1, x2, x3, x4, x5][i]? = some n := ⟨[x0, x1, x2, x3, x4, x5][i], List.getElem?_eq_getElem _⟩
      have hix := idx6 x0 x1 x2 x3 x4 x5 i n hn
      have hilI : (i : Int) < 6 := by omega
      have HN := Lib.hid hn
      clear hn
      go_wp2_with fail
      refine (within_any n (-100000) 100000 _).mono ?_
      rintro e w2 ⟨he, hw2⟩
      subst he
      subst hw2
      rw [wiB_fit]
      by_cases hf : fitB n = true
      · rw [hf]
        have HF := Lib.hid hf
        clear hf
        go_wp2
        refine ⟨⟨i + 1, by omega, by go_num, fun y hy => ?_⟩, by simp [intOf]; omega⟩
        rw [List.take_add_one, HN.out, List.mem_append] at hy
        rcases hy with h | h
        · exact HOK.out y h
        · simp at h; subst h; exact HF.out
      · have hf : fitB n = false := by simpa using hf
        rw [hf]
        have HF := Lib.hid hf
        clear hf
        go_wp2
        go_ret
        refine ⟨?_, belA w _⟩
        rw [fits_list]
        have h : [x0, x1, x2, x3, x4, x5].all fitB = false := by
          rw [Bool.eq_false_iff]
          intro h
          have := List.all_eq_true.1 h n (List.mem_of_getElem? HN.out)
          rw [HF.out] at this
          cases this
        rw [h]
        rfl
    · obtain rfl : i = 6 := by omega
      go_wp2_with fail
      refine (within_any dn 1 1000 _).mono ?_
      rintro e w2 ⟨he, hw2⟩
      subst he
      subst hw2
      go_wp2
      go_ret
      refine ⟨?_, belA w _⟩
      rw [fits_list]
      have h : [x0, x1, x2, x3, x4, x5].all fitB = true := List.all_eq_true.2 fun y hy => HOK.out y (by simpa using hy)
      rw [h]
      rfl
def CoRel (w : World) (l : List Int) (d : Int) (dv iv : Value) (wr : World) : Prop := ∃ (i : Nat) (e : Int), i ≤ 6 ∧ iv = .int .i64 (i : Int) ∧ dv = .int .i64 e ∧ (-1000000000000 ≤ e ∧ e ≤ 1000000000000) ∧ (gl (l.drop i) e.natAbs = gl l d.natAbs) ∧ (0 < i → 0 ≤ e) ∧ Below w.heap.size w wr
theorem gl_bound : ∀ (l : List Int) (d M : Nat), d ≤ M → (∀ n ∈ l, n.natAbs ≤ M) → gl l d ≤ M
  | [], _, _, h, _ => h
  | x :: r, d, M, h, hl => by
    refine gl_bound r (Nat.gcd d x.natAbs) M ?_ (fun n hn => hl n (List.mem_cons_of_mem _ hn))
    rcases Nat.eq_zero_or_pos d with h0 | h0
    · subst h0; rw [Nat.gcd_zero_left]; exact hl x List.mem_cons_self
    · exact Nat.le_trans (Nat.gcd_le_left _ h0) h
set_option maxRecDepth 100000 in
set_option maxHeartbeats 1000000 in
theorem common_any (x0 x1 x2 x3 x4 x5 d : Int) (w : World) (hd : -1000000000000 ≤ d ∧ d ≤ 1000000000000) (hx : ∀ n ∈ [x0, x1, x2, x3, x4, x5], -1000000000000 ≤ n ∧ n ≤ 1000000000000) :
    Calls Tryd.prog 69 #[.agg #[.int .i64 x0, .int .i64 x1, .int .i64 x2, .int .i64 x3, .int .i64 x4, .int .i64 x5], .int .i64 d] w fun e w' => e = .returned (.int .i64 ((V6.g ⟨x0, x1, x2, x3, x4, x5⟩ d : Nat) : Int)) ∧ Below w.heap.size w w' := by
  have HX := Lib.hid hx
  clear hx
  go_enter Tryd.func69, Tryd.ntmps69
  go_wp2
  go_loopw [1, 8] (fun dv iv wr => CoRel w [x0, x1, x2, x3, x4, x5] d dv iv wr) (fun _ iv _ => 6 - (intOf iv).toNat)
  case atStart => exact ⟨0, d, Nat.zero_le _, rfl, rfl, hd, rfl, fun h => absurd h (by omega), belA w _⟩
  case round =>
    obtain ⟨i, e, hi, rfl, rfl, he, hg, hp, hb⟩ := hrel
    have HG := Lib.hid hg
    have HB := Lib.hid hb
    have HP := Lib.hid hp
    clear hg hb hp
    by_cases hil : i < 6
    · obtain ⟨n, hn⟩ : ∃ n, [x0, x1, x2, x3, x4, x5][i]? = some n := ⟨[x0, x1, x2, x3, x4, x5][i], List.getElem?_eq_getElem _⟩
      have hix := idx6 x0 x1 x2 x3 x4 x5 i n hn
      have hilI : (i : Int) < 6 := by omega
      have hnb := HX.out n (List.mem_of_getElem? hn)
      have hdr : [x0, x1, x2, x3, x4, x5].drop i = n :: [x0, x1, x2, x3, x4, x5].drop (i + 1) := by
        have h1 := List.drop_eq_getElem_cons (l := [x0, x1, x2, x3, x4, x5]) (i := i) (by simpa using hil)
        rw [h1]
        congr 1
        rw [List.getElem?_eq_getElem (by simpa using hil)] at hn
        exact Option.some.inj hn
      have HDR := Lib.hid hdr
      clear hn hdr
      go_wp2_with fail
      refine (gcd_int e n 1000000000000 _ (by omega) (by omega) (by omega) (by omega) (by omega)).mono ?_
      rintro e2 w2 ⟨he2, hdr2⟩
      subst he2
      have hgb : Nat.gcd e.natAbs n.natAbs ≤ 1000000000000 := gl_bound [n] e.natAbs 1000000000000 (by omega) (fun m hm => by simp at hm; subst hm; omega)
      generalize hq : Nat.gcd e.natAbs n.natAbs = q at *
      have HQ := Lib.hid hq
      clear hq
      go_wp2
      refine ⟨⟨i + 1, (q : Int), by omega, by go_num, rfl, by omega, ?_, fun _ => by omega, HB.out.trans (hdr2.below.mono HB.out.size)⟩, by simp [intOf]; omega⟩
      rw [← HG.out, HDR.out, Int.natAbs_natCast, ← HQ.out]
      rfl
    · obtain rfl : i = 6 := by omega
      have hq := HG.out
      have hp := HP.out (by omega)
      have he2 : e = ((V6.g ⟨x0, x1, x2, x3, x4, x5⟩ d : Nat) : Int) := by
        show e = ((gl [x0, x1, x2, x3, x4, x5] d.natAbs : Nat) : Int)
        rw [← hq]
        show e = ((e.natAbs : Nat) : Int)
        omega
      have HE := Lib.hid he2
      clear hq he2
      go_wp2
      go_ret
      exact ⟨ret_int HE.out, HB.out⟩
end Go.Proofs.YtkoghdgfllichaaDoor
namespace Go.Proofs.YtkoghdgfllichaaDoor
open Go.RowKit

def cellsR (r : Rt) : List Value := [.int .i64 r.v.a, .int .i64 r.v.b, .int .i64 r.v.c, .int .i64 r.v.d, .int .i64 r.v.e, .int .i64 r.v.f, .int .i64 r.d]
structure CellR (w : World) (g o : Nat) (r : Rt) : Prop where
  c0 : w.cell? ⟨g, o, none⟩ = some (.int .i64 r.v.a)
  c1 : w.cell? ⟨g, o + 1, none⟩ = some (.int .i64 r.v.b)
  c2 : w.cell? ⟨g, o + 2, none⟩ = some (.int .i64 r.v.c)
  c3 : w.cell? ⟨g, o + 3, none⟩ = some (.int .i64 r.v.d)
  c4 : w.cell? ⟨g, o + 4, none⟩ = some (.int .i64 r.v.e)
  c5 : w.cell? ⟨g, o + 5, none⟩ = some (.int .i64 r.v.f)
  c6 : w.cell? ⟨g, o + 6, none⟩ = some (.int .i64 r.d)
theorem CellR.below {w w' : World} {B g o : Nat} {r : Rt} (h : CellR w g o r) (hb : Below B w w') (hg : g < B) : CellR w' g o r :=
  ⟨(hb.cell (p := ⟨g, _, none⟩) hg).trans h.c0, (hb.cell (p := ⟨g, _, none⟩) hg).trans h.c1, (hb.cell (p := ⟨g, _, none⟩) hg).trans h.c2, (hb.cell (p := ⟨g, _, none⟩) hg).trans h.c3, (hb.cell (p := ⟨g, _, none⟩) hg).trans h.c4, (hb.cell (p := ⟨g, _, none⟩) hg).trans h.c5, (hb.cell (p := ⟨g, _, none⟩) hg).trans h.c6⟩
def exR : List Rt → Int
  | [] => 0
  | r :: rs => if r.err = 0 then exR rs else r.err
theorem exR_bad : ∀ {rs : List Rt} {i : Nat} {r : Rt}, rs[i]? = some r → (∀ x ∈ rs.take i, x.err = 0) → r.err ≠ 0 → exR rs = r.err
  | [], i, r, h, _, _ => by simp at h
  | x :: rs, 0, r, h, _, hr => by
    simp at h; subst h
    unfold exR; rw [if_neg hr]
  | x :: rs, i + 1, r, h, h0, hr => by
    unfold exR
    rw [if_pos (h0 x (by simp)), exR_bad (rs := rs) (by simpa using h) (fun y hy => h0 y (by simp [hy])) hr]
theorem exR_ok : ∀ {rs : List Rt}, (∀ x ∈ rs, x.err = 0) → exR rs = 0
  | [], _ => rfl
  | x :: rs, h => by unfold exR; rw [if_pos (h x (by simp)), exR_ok fun y hy => h y (by simp [hy])]
def ErRel (w : World) (rs : List Rt) (iv : Value) (wr : World) : Prop :=
  ∃ i : Nat, i ≤ rs.length ∧ iv = .int .i64 (i : Int) ∧ (∀ x ∈ rs.take i, x.err = 0) ∧ Below w.heap.size w wr
set_option maxRecDepth 100000 in
set_option maxHeartbeats 2000000 in
theorem examineR_any (g : Nat) (rs : List Rt) (w : World) (hg : g < w.heap.size) (hc : ∀ i r, rs[i]? = some r → CellR w g (i * 7) r) (hl : rs.length ≤ 1000) :
    Calls Tryd.prog 31 #[.slice (some ⟨g, 0, none⟩) rs.length rs.length] w fun e w' => e = .returned (.int .i64 (exR rs)) ∧ Below w.heap.size w w' := by
  have HC := Lib.hid hc
  clear hc
  go_enter Tryd.func31, Tryd.ntmps31
  go_wp2
  go_loopw [7] (fun iv wr => ErRel w rs iv wr) (fun iv _ => rs.length - (intOf iv).toNat)
  case atStart => exact ⟨0, Nat.zero_le _, rfl, fun x h => (by cases h), Below.refl _ _⟩
  case round =>
    obtain ⟨i, hi, rfl, hok, hb⟩ := hrel
    have HOK := Lib.hid hok
    have HB := Lib.hid hb
    clear hok hb
    by_cases hil : i < rs.length
    · obtain ⟨r, hr⟩ : ∃ r, rs[i]? = some r := ⟨rs[i], List.getElem?_eq_getElem hil⟩
      obtain ⟨c0, c1, c2, c3, c4, c5, c6⟩ := (HC.out i r hr).below HB.out hg
      have hilI : (i : Int) < (rs.length : Int) := by omega
      have HR := Lib.hid hr
      clear hr
      obtain ⟨⟨x0, x1, x2, x3, x4, x5⟩, dn⟩ := r
      simp only at c0 c1 c2 c3 c4 c5 c6
      go_wp2_with fail
      refine (fits_any x0 x1 x2 x3 x4 x5 dn _).mono ?_
      rintro e w2 ⟨he, hb2⟩
      subst he
      have hb2' := HB.out.trans (((belA wr _).mono HB.out.size).trans (hb2.mono (by simp; have := HB.out.size; omega)))
      have hnew : w2.heap[wr.heap.size]? = some (.cells #[.int .i64 x0, .int .i64 x1, .int .i64 x2, .int .i64 x3, .int .i64 x4, .int .i64 x5, .int .i64 dn] 24 (0, 0)) := (hb2.block _ (by simp)).trans (heap_alloc_new wr _)
      have hz2 : w.heap.size ≤ w2.heap.size := hb2'.size
      have HB2 := Lib.hid hb2'
      clear hb2 hb2'
      by_cases hf : Rt.fits ⟨⟨x0, x1, x2, x3, x4, x5⟩, dn⟩ = true
      · rw [hf]
        have hfi := Rt.fits_iff.1 hf
        have k0 := Go.Joins.cell_of_block hnew 0
        have k1 := Go.Joins.cell_of_block hnew 1
        have k2 := Go.Joins.cell_of_block hnew 2
        have k3 := Go.Joins.cell_of_block hnew 3
        have k4 := Go.Joins.cell_of_block hnew 4
        have k5 := Go.Joins.cell_of_block hnew 5
        have k6 := Go.Joins.cell_of_block hnew 6
        simp only [List.getElem?_toArray, List.getElem?_cons_zero, List.getElem?_cons_succ] at k0 k1 k2 k3 k4 k5 k6
        have HF := Lib.hid hf
        have HFI := Lib.hid hfi
        clear hf hfi hnew c0 c1 c2 c3 c4 c5 c6
        go_wp2_with fail
        refine (common_any x0 x1 x2 x3 x4 x5 dn _ (by have := HFI.out.2; omega) (fun n hn => by have := HFI.out.1 n hn; omega)).mono ?_
        rintro e w3 ⟨he, hb3⟩
        subst he
        have hb3' := HB2.out.trans (hb3.mono hz2)
        have HB3 := Lib.hid hb3'
        clear hb3 hb3'
        have herr : Rt.err ⟨⟨x0, x1, x2, x3, x4, x5⟩, dn⟩ = if V6.g ⟨x0, x1, x2, x3, x4, x5⟩ dn = 1 then 0 else 6 := by unfold Rt.err; rw [if_pos HF.out]
        generalize hG : V6.g ⟨x0, x1, x2, x3, x4, x5⟩ dn = G at *
        have HER := Lib.hid herr
        clear herr hG
        by_cases h1 : G = 1
        · subst h1
          go_wp2
          refine ⟨⟨i + 1, by omega, by go_num, ?_, HB3.out⟩, by simp [intOf]; omega⟩
          intro y hy
          rw [List.take_add_one, HR.out, List.mem_append] at hy
          rcases hy with h | h
          · exact HOK.out y h
          · simp at h; subst h; rw [HER.out]; simp
        · have h1b : ((G : Int) != 1) = true := by simp; omega
          have h1c : ¬ (G : Int) = 1 := by omega
          go_wp2
          go_ret
          refine ⟨?_, HB3.out⟩
          rw [exR_bad HR.out HOK.out (by rw [HER.out, if_neg h1]; omega), HER.out, if_neg h1]
          rfl
      · have hf : Rt.fits ⟨⟨x0, x1, x2, x3, x4, x5⟩, dn⟩ = false := by simpa using hf
        rw [hf]
        have herr : Rt.err ⟨⟨x0, x1, x2, x3, x4, x5⟩, dn⟩ = 2 := by unfold Rt.err; rw [if_neg (by simp [hf])]
        have HER := Lib.hid herr
        clear hf herr
        go_wp2
        go_ret
        refine ⟨?_, HB2.out⟩
        rw [exR_bad HR.out HOK.out (by rw [HER.out]; omega), HER.out]
        rfl
    · obtain rfl : i = rs.length := by omega
      have hE : exR rs = 0 := exR_ok fun x hx => HOK.out x (by rw [List.take_length]; exact hx)
      go_wp2
      go_ret
      exact ⟨by rw [hE]; rfl, HB.out⟩
end Go.Proofs.YtkoghdgfllichaaDoor
namespace Go.Proofs.YtkoghdgfllichaaDoor
open Go.RowKit

def psI : List Int := [2, 3, 5, 7, 11, 13]
structure PrL (W : World) : Prop where
  cell : ∀ (i : Nat) (p : Int), psI[i]? = some p → W.cell? ⟨0, i, none⟩ = some (.int .i64 p)
  lt : 0 < W.heap.size
theorem PrL.below {W W' : World} (h : PrL W) (hb : Below W.heap.size W W') : PrL W' :=
  ⟨fun i p hp => (hb.cell (p := ⟨0, i, none⟩) h.lt).trans (h.cell i p hp), Nat.lt_of_lt_of_le h.lt hb.size⟩
theorem PrL.up {W W' : World} {B : Nat} (h : PrL W) (hB : W.heap.size ≤ B) (hb : Below B W W') : PrL W' := h.below (hb.mono hB)
theorem psI_nat (i : Nat) (p : Int) (h : psI[i]? = some p) : ∃ q : Nat, p = (q : Int) ∧ ps6[i]? = some q ∧ 2 ≤ q ∧ q ≤ 13 := by
  match i, h with
  | 0, h => cases h; exact ⟨2, rfl, rfl, by omega, by omega⟩
  | 1, h => cases h; exact ⟨3, rfl, rfl, by omega, by omega⟩
  | 2, h => cases h; exact ⟨5, rfl, rfl, by omega, by omega⟩
  | 3, h => cases h; exact ⟨7, rfl, rfl, by omega, by omega⟩
  | 4, h => cases h; exact ⟨11, rfl, rfl, by omega, by omega⟩
  | 5, h => cases h; exact ⟨13, rfl, rfl, by omega, by omega⟩
theorem nz_append (a b : List (Nat × Int)) : nz (a ++ b) = nz a ++ nz b := by unfold nz; rw [List.filter_append]
theorem zip_take {l : List Int} {i : Nat} {n : Int} {q : Nat} (hq : ps6[i]? = some q) (hn : l[i]? = some n) : ps6.zip (l.take (i + 1)) = ps6.zip (l.take i) ++ [(q, n)] := by
  have h1 : ∀ (ps : List Nat) (l : List Int) (i : Nat), ps[i]? = some q → l[i]? = some n → ps.zip (l.take (i + 1)) = ps.zip (l.take i) ++ [(q, n)] := by
    intro ps
    induction ps with
    | nil => intro l i h; simp at h
    | cons p ps ih =>
      intro l i h1 h2
      cases l with
      | nil => simp at h2
      | cons a l =>
        cases i with
        | zero => simp at h1 h2; subst h1 h2; simp
        | succ i =>
          have := ih l i (by simpa using h1) (by simpa using h2)
          simp only [List.take_succ_cons, List.zip_cons_cons, List.cons_append]
          rw [this]
  exact h1 _ _ _ hq hn
theorem nz_len (l : List (Nat × Int)) : (nz l).length ≤ l.length := List.length_filter_le _ _
def PoRel (w : World) (l : List Int) (v iv : Value) (wr : World) : Prop :=
  ∃ i : Nat, i ≤ 6 ∧ iv = .int .i64 (i : Int) ∧ RowT wr w.heap.size v (nz (ps6.zip (l.take i))) ∧ Below w.heap.size w wr
set_option maxRecDepth 100000 in
set_option maxHeartbeats 1000000 in
theorem powersOf_any (x0 x1 x2 x3 x4 x5 : Int) (w : World) (hp : PrL w) :
    Calls Tryd.prog 34 #[.agg #[.int .i64 x0, .int .i64 x1, .int .i64 x2, .int .i64 x3, .int .i64 x4, .int .i64 x5]] w fun e w' => ∃ v, e = .returned v ∧ RowT w' w.heap.size v (nz (V6.zl ⟨x0, x1, x2, x3, x4, x5⟩)) ∧ Below w.heap.size w w' := by
  have HP := Lib.hid hp
  clear hp
  go_enter Tryd.func34, Tryd.ntmps34
  go_wp2
  go_loopw [3, 7] (fun v iv wr => PoRel w [x0, x1, x2, x3, x4, x5] v iv wr) (fun _ iv _ => 6 - (intOf iv).toNat)
  case atStart => exact ⟨0, Nat.zero_le _, rfl, RowT.nil _ _, belA w _⟩
  case round =>
    obtain ⟨i, hi, rfl, hrow, hb⟩ := hrel
    by_cases hil : i < 6
    · obtain ⟨n, hn⟩ : ∃ n, [x0, x1, x2, x3, x4, x5][i]? = some n := ⟨[x0, x1, x2, x3, x4, x5][i], List.getElem?_eq_getElem _⟩
      have hix := idx6 x0 x1 x2 x3 x4 x5 i n hn
      have hilI : (i : Int) < 6 := by omega
      have hiI : (0 : Int) ≤ (i : Int) := by omega
      obtain ⟨p, hpi⟩ : ∃ p, psI[i]? = some p := ⟨psI[i]'(by simpa [psI] using hil), List.getElem?_eq_getElem _⟩
      obtain ⟨q, rfl, hq, hq2, hq3⟩ := psI_nat i p hpi
      have hpc := (HP.out.below hb).cell i _ hpi
      have hzt := zip_take hq hn
      have HZT := Lib.hid hzt
      have HROW := Lib.hid hrow
      have HB := Lib.hid hb
      have hle : (nz (ps6.zip ([x0, x1, x2, x3, x4, x5].take i))).length ≤ 6 := by
        refine Nat.le_trans (nz_len _) ?_
        rw [List.length_zip, List.length_take]
        have : ps6.length = 6 := rfl
        omega
      clear hpi hq hzt hrow hb hn
      by_cases h0 : n = 0
      · subst h0
        go_wp2
        refine ⟨⟨i + 1, by omega, by go_num, ?_, HB.out⟩, by simp [intOf]; omega⟩
        rw [HZT.out, nz_append]
        have : nz [(q, (0 : Int))] = [] := rfl
        rw [this, List.append_nil]
        exact HROW.out
      · have h0b : (n != 0) = true := by simp [h0]
        have HN0 := Lib.hid h0
        obtain ⟨bA, capA, rfl, hcA, hmA, hfA⟩ := HROW.out.form
        have HFA := Lib.hid hfA
        have hzs := HB.out.size
        clear hfA h0
        have hrow2 := HROW.out.up (belA wr (.cells #[.int .i64 (q : Int), .int .i64 n] 75))
        have HROW2 := Lib.hid hrow2
        clear hrow2
        go_wp2_with (at_builtin; refine append_any rfl (.tmp 13) (.tmp 19) rfl (l := nz (ps6.zip ([x0, x1, x2, x3, x4, x5].take i))) (r := [(q, n)]) rfl HROW2.out wr.heap.size 0 1 rfl (cells_one wr q n) (by simp; omega) (by simp; omega) ?_; intro v' w' hown' hgr' hat')
        refine ⟨⟨i + 1, by omega, by go_num, ?_, ?_⟩, by simp [intOf]; omega⟩
        · rw [HZT.out, nz_append]
          have : nz [(q, n)] = [(q, n)] := by unfold nz; rw [List.filter_cons, if_pos h0b]; rfl
          rw [this]
          exact hown'
        · refine (HB.out.alloc hzs _).grown hgr' (by simp; omega) (fun k hk => ?_)
          rcases HFA.out with ⟨rfl, -, -⟩ | ⟨g, rfl, hg, -, -⟩
          · cases hk
          · cases hk; exact hg
    · obtain rfl : i = 6 := by omega
      have HROW := Lib.hid hrow
      have HB := Lib.hid hb
      clear hrow hb
      go_wp2
      go_ret
      exact ⟨_, rfl, HROW.out, HB.out⟩
end Go.Proofs.YtkoghdgfllichaaDoor
