import Derived.Test.YtlmcafcebidliaaDoorKB3
namespace Go.Proofs.YtlmcafcebidliaaDoor
open Go.RowKit

def cellsR (r : Rt) : List Value := [.int .i64 r.v.a, .int .i64 r.v.b, .int .i64 r.v.c, .int .i64 r.v.d, .int .i64 r.v.e, .int .i64 r.v.f, .int .i64 r.d]
structure CellR (w : World) (g o : Nat) (r : Rt) : Prop where
  c0 : w.cell? ⟨g, o, none⟩ = some (.int .i64 r.v.a)
  c1 : w.cell? ⟨g, o + 1, none⟩ = some (.int .i64 r.v.b)
  c2 : w.cell? ⟨g, o + 2, none⟩ = some (.int .i64 r.v.c)
  c3 : w.cell? ⟨g, o + 3, none⟩ = some (.int .i64 r.v.d)
  c4 : w.cell? ⟨g, o + 4, none⟩ = some (.int .i64 r.v.e)
  c5 : w.cell? ⟨g, o + 5, none⟩ = some (.int .i64 r.v.f)
  c6 : w.cell? ⟨g, o + 6, none⟩ = some (.int .i64 r.d)
theorem CellR.below {w w' : World} {B g o : Nat} {r : Rt} (h : CellR w g o r) (hb : Below B w w') (hg : g < B) : CellR w' g o r :=
  ⟨(hb.cell (p := ⟨g, _, none⟩) hg).trans h.c0, (hb.cell (p := ⟨g, _, none⟩) hg).trans h.c1, (hb.cell (p := ⟨g, _, none⟩) hg).trans h.c2, (hb.cell (p := ⟨g, _, none⟩) hg).trans h.c3, (hb.cell (p := ⟨g, _, none⟩) hg).trans h.c4, (hb.cell (p := ⟨g, _, none⟩) hg).trans h.c5, (hb.cell (p := ⟨g, _, none⟩) hg).trans h.c6⟩
def exR : List Rt → Int
  | [] => 0
  | r :: rs => if r.err = 0 then exR rs else r.err
theorem exR_bad : ∀ {rs : List Rt} {i : Nat} {r : Rt}, rs[i]? = some r → (∀ x ∈ rs.take i, x.err = 0) → r.err ≠ 0 → exR rs = r.err
  | [], i, r, h, _, _ => by simp at h
  | x :: rs, 0, r, h, _, hr => by
    simp at h; subst h
    unfold exR; rw [if_neg hr]
  | x :: rs, i + 1, r, h, h0, hr => by
    unfold exR
    rw [if_pos (h0 x (by simp)), exR_bad (rs := rs) (by simpa using h) (fun y hy => h0 y (by simp [hy])) hr]
theorem exR_ok : ∀ {rs : List Rt}, (∀ x ∈ rs, x.err = 0) → exR rs = 0
  | [], _ => rfl
  | x :: rs, h => by unfold exR; rw [if_pos (h x (by simp)), exR_ok fun y hy => h y (by simp [hy])]
def ErRel (w : World) (rs : List Rt) (iv : Value) (wr : World) : Prop :=
  ∃ i : Nat, i ≤ rs.length ∧ iv = .int .i64 (i : Int) ∧ (∀ x ∈ rs.take i, x.err = 0) ∧ Below w.heap.size w wr
set_option maxRecDepth 100000 in
set_option maxHeartbeats 2000000 in
theorem examineR_any (g : Nat) (rs : List Rt) (w : World) (hg : g < w.heap.size) (hc : ∀ i r, rs[i]? = some r → CellR w g (i * 7) r) (hl : rs.length ≤ 1000) :
    Calls Tryd.prog 83 #[.slice (some ⟨g, 0, none⟩) rs.length rs.length] w fun e w' => e = .returned (.int .i64 (exR rs)) ∧ Below w.heap.size w w' := by
  have HC := Lib.hid hc
  clear hc
  go_enter Tryd.func83, Tryd.ntmps83
  go_wp2
  go_loopw [7] (fun iv wr => ErRel w rs iv wr) (fun iv _ => rs.length - (intOf iv).toNat)
  case atStart => exact ⟨0, Nat.zero_le _, rfl, fun x h => (by cases h), Below.refl _ _⟩
  case round =>
    obtain ⟨i, hi, rfl, hok, hb⟩ := hrel
    have HOK := Lib.hid hok
    have HB := Lib.hid hb
    clear hok hb
    by_cases hil : i < rs.length
    · obtain ⟨r, hr⟩ : ∃ r, rs[i]? = some r := ⟨rs[i], List.getElem?_eq_getElem hil⟩
      obtain ⟨c0, c1, c2, c3, c4, c5, c6⟩ := (HC.out i r hr).below HB.out hg
      have hilI : (i : Int) < (rs.length : Int) := by omega
      have HR := Lib.hid hr
      clear hr
      obtain ⟨⟨x0, x1, x2, x3, x4, x5⟩, dn⟩ := r
      simp only at c0 c1 c2 c3 c4 c5 c6
      go_wp2_with fail
      refine (fits_any x0 x1 x2 x3 x4 x5 dn _).mono ?_
      rintro e w2 ⟨he, hb2⟩
      subst he
      have hb2' := HB.out.trans (((belA wr _).mono HB.out.size).trans (hb2.mono (by simp; have := HB.out.size; omega)))
      have hnew : w2.heap[wr.heap.size]? = some (.cells #[.int .i64 x0, .int .i64 x1, .int .i64 x2, .int .i64 x3, .int .i64 x4, .int .i64 x5, .int .i64 dn] 40 (0, 0)) := (hb2.block _ (by simp)).trans (heap_alloc_new wr _)
      have hz2 : w.heap.size ≤ w2.heap.size := hb2'.size
      have HB2 := Lib.hid hb2'
      clear hb2 hb2'
      by_cases hf : Rt.fits ⟨⟨x0, x1, x2, x3, x4, x5⟩, dn⟩ = true
      · rw [hf]
        have hfi := Rt.fits_iff.1 hf
        have k0 := Go.Joins.cell_of_block hnew 0
        have k1 := Go.Joins.cell_of_block hnew 1
        have k2 := Go.Joins.cell_of_block hnew 2
        have k3 := Go.Joins.cell_of_block hnew 3
        have k4 := Go.Joins.cell_of_block hnew 4
        have k5 := Go.Joins.cell_of_block hnew 5
        have k6 := Go.Joins.cell_of_block hnew 6
        simp only [List.getElem?_toArray, List.getElem?_cons_zero, List.getElem?_cons_succ] at k0 k1 k2 k3 k4 k5 k6
        have HF := Lib.hid hf
        have HFI := Lib.hid hfi
        clear hf hfi hnew c0 c1 c2 c3 c4 c5 c6
        go_wp2_with fail
        refine (common_any x0 x1 x2 x3 x4 x5 dn _ (by have := HFI.out.2; omega) (fun n hn => by have := HFI.out.1 n hn; omega)).mono ?_
        rintro e w3 ⟨he, hb3⟩
        subst he
        have hb3' := HB2.out.trans (hb3.mono hz2)
        have HB3 := Lib.hid hb3'
        clear hb3 hb3'
        have herr : Rt.err ⟨⟨x0, x1, x2, x3, x4, x5⟩, dn⟩ = if V6.g ⟨x0, x1, x2, x3, x4, x5⟩ dn = 1 then 0 else 6 := by unfold Rt.err; rw [if_pos HF.out]
        generalize hG : V6.g ⟨x0, x1, x2, x3, x4, x5⟩ dn = G at *
        have HER := Lib.hid herr
        clear herr hG
        by_cases h1 : G = 1
        · subst h1
          go_wp2
          refine ⟨⟨i + 1, by omega, by go_num, ?_, HB3.out⟩, by simp [intOf]; omega⟩
          intro y hy
          rw [List.take_add_one, HR.out, List.mem_append] at hy
          rcases hy with h | h
          · exact HOK.out y h
          · simp at h; subst h; rw [HER.out]; simp
        · have h1b : ((G : Int) != 1) = true := by simp; omega
          have h1c : ¬ (G : Int) = 1 := by omega
          go_wp2
          go_ret
          refine ⟨?_, HB3.out⟩
          rw [exR_bad HR.out HOK.out (by rw [HER.out, if_neg h1]; omega), HER.out, if_neg h1]
          rfl
      · have hf : Rt.fits ⟨⟨x0, x1, x2, x3, x4, x5⟩, dn⟩ = false := by simpa using hf
        rw [hf]
        have herr : Rt.err ⟨⟨x0, x1, x2, x3, x4, x5⟩, dn⟩ = 2 := by unfold Rt.err; rw [if_neg (by simp [hf])]
        have HER := Lib.hid herr
        clear hf herr
        go_wp2
        go_ret
        refine ⟨?_, HB2.out⟩
        rw [exR_bad HR.out HOK.out (by rw [HER.out]; omega), HER.out]
        rfl
    · obtain rfl : i = rs.length := by omega
      have hE : exR rs = 0 := exR_ok fun x hx => HOK.out x (by rw [List.take_length]; exact hx)
      go_wp2
      go_ret
      exact ⟨by rw [hE]; rfl, HB.out⟩
end Go.Proofs.YtlmcafcebidliaaDoor
