import Derived.Test.YtmbcejldifobnaaDoorC04
import Derived.Deep.QuietTactic
import Derived.BigQuiet
namespace Go.Proofs.YtmbcejldifobnaaDoor
open Go.RowKit
def rtv (r : Rt) : Value := .agg #[.int .i64 r.v.a, .int .i64 r.v.b, .int .i64 r.v.c, .int .i64 r.v.d, .int .i64 r.v.e, .int .i64 r.v.f, .int .i64 r.d]
/-- Block g holds just these numbers. -/
def RowI (w : World) (g : Nat) (t : TypeId) (L : List Int) : Prop := w.heap[g]? = some (.cells (L.map (Value.int .i64)).toArray t (0, 0))
theorem RowI.cell {w : World} {g : Nat} {t : TypeId} {L : List Int} (h : RowI w g t L) {i : Nat} {x : Int} (hx : L[i]? = some x) : w.cell? ⟨g, i, none⟩ = some (.int .i64 x) := by
  rw [Go.Joins.cell_of_block h i]; simp [hx]
theorem RowI.frozen {w : World} {g : Nat} {t : TypeId} {L : List Int} (h : RowI w g t L) (i : Nat) : w.frozen? ⟨g, i, none⟩ = false := by
  have e : w.heap[g]? = some (.cells (L.map (Value.int .i64)).toArray t (0, 0)) := h
  simp [World.frozen?, e]
theorem RowI.lt {w : World} {g : Nat} {t : TypeId} {L : List Int} (h : RowI w g t L) : g < w.heap.size := (Array.getElem?_eq_some_iff.1 h).1
theorem RowI.set {w : World} {g : Nat} {t : TypeId} {L : List Int} (h : RowI w g t L) (i : Nat) (x : Int) : RowI (w.setCell ⟨g, i, none⟩ (.int .i64 x)) g t (L.set i x) := by
  have e : w.heap[g]? = some (.cells (L.map (Value.int .i64)).toArray t (0, 0)) := h
  show (w.setCell _ _).heap[g]? = _
  rw [List.map_set]
  simp [World.setCell, Array.getElem?_modify, e]
theorem RowI.up {w w' : World} {g : Nat} {t : TypeId} {L : List Int} (h : RowI w g t L) (hb : Below w.heap.size w w') : RowI w' g t L := (hb.block g h.lt).trans h
theorem RowI.other {W : World} {g k i : Nat} {t : TypeId} {L : List Int} (h : RowI W g t L) (u : Value) (hne : g ≠ k) : RowI (W.setCell ⟨k, i, none⟩ u) g t L := (setCell_heap hne).trans h
theorem size_setCell' (w : World) (a : Addr) (v : Value) : (w.setCell a v).heap.size = w.heap.size := by simp [World.setCell]
/-- A ratio stored into a block. -/
def putR (w : World) (g : Nat) (x0 x1 x2 x3 x4 x5 d : Int) : World :=
  ((((((w.setCell ⟨g, 0, none⟩ (.int .i64 x0)).setCell ⟨g, 1, none⟩ (.int .i64 x1)).setCell ⟨g, 2, none⟩ (.int .i64 x2)).setCell ⟨g, 3, none⟩ (.int .i64 x3)).setCell ⟨g, 4, none⟩ (.int .i64 x4)).setCell ⟨g, 5, none⟩ (.int .i64 x5)).setCell ⟨g, 6, none⟩ (.int .i64 d)
theorem putR_row {w : World} {g : Nat} {t : TypeId} {a0 a1 a2 a3 a4 a5 a6 : Int} (h : RowI w g t [a0, a1, a2, a3, a4, a5, a6]) (x0 x1 x2 x3 x4 x5 d : Int) : RowI (putR w g x0 x1 x2 x3 x4 x5 d) g t [x0, x1, x2, x3, x4, x5, d] :=
  ((((((h.set 0 x0).set 1 x1).set 2 x2).set 3 x3).set 4 x4).set 5 x5).set 6 d
theorem putR_below {w0 w : World} {B g : Nat} (h : Below B w0 w) (hg : B ≤ g) (x0 x1 x2 x3 x4 x5 d : Int) : Below B w0 (putR w g x0 x1 x2 x3 x4 x5 d) :=
  ((((((h.setCell hg _).setCell hg _).setCell hg _).setCell hg _).setCell hg _).setCell hg _).setCell hg _
theorem RowI.r7 {w : World} {g : Nat} {t : TypeId} {x0 x1 x2 x3 x4 x5 d : Int} (h : RowI w g t [x0, x1, x2, x3, x4, x5, d]) : CellR w g 0 ⟨⟨x0, x1, x2, x3, x4, x5⟩, d⟩ :=
  ⟨h.cell (i := 0) rfl, h.cell (i := 1) rfl, h.cell (i := 2) rfl, h.cell (i := 3) rfl, h.cell (i := 4) rfl, h.cell (i := 5) rfl, h.cell (i := 6) rfl⟩
/-- What a function returns that returns a ratio and an error. -/
def RtPost (w : World) (r : Rt × Int) (e : Ending) (w' : World) : Prop := e = .returned (.tuple #[rtv r.1, .int .i64 r.2]) ∧ Below w.heap.size w w'
/-- The numbers, the first i of them divided. -/
def quoL (G : Int) (l : List Int) (i : Nat) : List Int := (l.take i).map (·.tdiv G) ++ l.drop i
theorem quoL_at {G : Int} {l : List Int} {i : Nat} {x : Int} (h : l[i]? = some x) : (quoL G l i)[i]? = some x := by
  have hi := (List.getElem?_eq_some_iff.1 h).1
  unfold quoL
  rw [List.getElem?_append_right (by simp; omega), List.length_map, List.length_take, List.getElem?_drop, show i + (i - min i l.length) = i by omega]
  exact h
theorem quoL_set {G : Int} {l : List Int} {i : Nat} {x : Int} (h : l[i]? = some x) : (quoL G l i).set i (x.tdiv G) = quoL G l (i + 1) := by
  have hi := (List.getElem?_eq_some_iff.1 h).1
  have hl : ((l.take i).map (·.tdiv G)).length = i := by simp; omega
  unfold quoL
  rw [List.set_append, if_neg (by omega), hl, Nat.sub_self, List.take_add_one, h, List.map_append]
  have hd : l.drop i = x :: l.drop (i + 1) := by
    rw [List.drop_eq_getElem_cons hi]
    congr 1
    rw [List.getElem?_eq_getElem hi] at h
    exact Option.some.inj h
  rw [hd, List.set_cons_zero]
  simp
def LoRel (w : World) (A : Nat) (t : TypeId) (G : Int) (l : List Int) (iv : Value) (wr : World) : Prop :=
  ∃ i : Nat, i ≤ 6 ∧ iv = .int .i64 (i : Int) ∧ RowI wr A t (quoL G l i) ∧ RowI wr (A + 1) 24 [0, 0, 0, 0, 0, 0, 0] ∧ Below w.heap.size w wr
theorem tdiv_bound {x G : Int} {M : Int} (hx : -M ≤ x ∧ x ≤ M) : -M ≤ x.tdiv G ∧ x.tdiv G ≤ M := by
  have h : (x.tdiv G).natAbs ≤ x.natAbs := by rw [Int.natAbs_tdiv]; exact Nat.div_le_self _ _
  omega
set_option maxRecDepth 100000 in
set_option maxHeartbeats 1000000 in
theorem lowest_any (x0 x1 x2 x3 x4 x5 d : Int) (w : World) (hd0 : d ≠ 0) (hd : -1000000000 ≤ d ∧ d ≤ 1000000000) (hx : ∀ n ∈ [x0, x1, x2, x3, x4, x5], -1000000000 ≤ n ∧ n ≤ 1000000000) :
    Calls Tryd.prog 187 #[.agg #[.int .i64 x0, .int .i64 x1, .int .i64 x2, .int .i64 x3, .int .i64 x4, .int .i64 x5], .int .i64 d] w (RtPost w (lowW ⟨x0, x1, x2, x3, x4, x5⟩ d)) := by
  have hco := fun W => common_any x0 x1 x2 x3 x4 x5 d W (by omega) (fun n hn => by have := hx n hn; omega)
  have hgs : V6.gs ⟨x0, x1, x2, x3, x4, x5⟩ d = if d < 0 then -((V6.g ⟨x0, x1, x2, x3, x4, x5⟩ d : Nat) : Int) else ((V6.g ⟨x0, x1, x2, x3, x4, x5⟩ d : Nat) : Int) := rfl
  have hne : V6.gs ⟨x0, x1, x2, x3, x4, x5⟩ d ≠ 0 := gs_ne hd0
  have hgb : V6.g ⟨x0, x1, x2, x3, x4, x5⟩ d ≤ 1000000000 := gl_bound _ _ _ (by omega) (fun n hn => by have := hx n hn; omega)
  have hW : lowW ⟨x0, x1, x2, x3, x4, x5⟩ d = if (Rt.mk ⟨x0.tdiv (V6.gs ⟨x0, x1, x2, x3, x4, x5⟩ d), x1.tdiv (V6.gs ⟨x0, x1, x2, x3, x4, x5⟩ d), x2.tdiv (V6.gs ⟨x0, x1, x2, x3, x4, x5⟩ d), x3.tdiv (V6.gs ⟨x0, x1, x2, x3, x4, x5⟩ d), x4.tdiv (V6.gs ⟨x0, x1, x2, x3, x4, x5⟩ d), x5.tdiv (V6.gs ⟨x0, x1, x2, x3, x4, x5⟩ d)⟩ (d.tdiv (V6.gs ⟨x0, x1, x2, x3, x4, x5⟩ d))).fits = true then ((Rt.mk ⟨x0.tdiv (V6.gs ⟨x0, x1, x2, x3, x4, x5⟩ d), x1.tdiv (V6.gs ⟨x0, x1, x2, x3, x4, x5⟩ d), x2.tdiv (V6.gs ⟨x0, x1, x2, x3, x4, x5⟩ d), x3.tdiv (V6.gs ⟨x0, x1, x2, x3, x4, x5⟩ d), x4.tdiv (V6.gs ⟨x0, x1, x2, x3, x4, x5⟩ d), x5.tdiv (V6.gs ⟨x0, x1, x2, x3, x4, x5⟩ d)⟩ (d.tdiv (V6.gs ⟨x0, x1, x2, x3, x4, x5⟩ d))), (0 : Int)) else (Rt.zero, 7) := rfl
  generalize V6.gs ⟨x0, x1, x2, x3, x4, x5⟩ d = G at *
  generalize V6.g ⟨x0, x1, x2, x3, x4, x5⟩ d = g at *
  have HW := Lib.hid hW
  generalize lowW ⟨x0, x1, x2, x3, x4, x5⟩ d = RW at *
  have HCO := Lib.hid hco
  have HGS := Lib.hid hgs
  have HX := Lib.hid hx
  have hgb2 : (g : Int) ≤ 1000000000 := by omega
  clear hco hgs hW hx
  go_enter Tryd.func187, Tryd.ntmps187
  go_wp2_with fail
  refine (HCO.out _).mono ?_
  rintro e w1 ⟨he, hb1⟩
  subst he
  have hA : RowI w1 w.heap.size 22 (quoL G [x0, x1, x2, x3, x4, x5] 0) :=
    (hb1.block w.heap.size (by simp; omega)).trans (((belA (w.alloc _) _).block w.heap.size (by simp)).trans (heap_alloc_new w _))
  have hR : RowI w1 (w.heap.size + 1) 24 [0, 0, 0, 0, 0, 0, 0] := by
    have h := heap_alloc_new (w.alloc (.cells #[.int .i64 x0, .int .i64 x1, .int .i64 x2, .int .i64 x3, .int .i64 x4, .int .i64 x5] 22)) (.cells #[.int .i64 0, .int .i64 0, .int .i64 0, .int .i64 0, .int .i64 0, .int .i64 0, .int .i64 0] 24)
    rw [World.size_alloc] at h
    exact (hb1.block (w.heap.size + 1) (by simp)).trans h
  have hB : Below w.heap.size w w1 := ((belA w _).trans ((belA (w.alloc _) _).mono (by simp))).trans (hb1.mono (by simp; omega))
  have HA := Lib.hid hA
  have HR := Lib.hid hR
  have HB := Lib.hid hB
  clear hA hR hB hb1 HCO
  by_cases hneg : d < 0
  case' pos =>
    have hG : -(g : Int) = G := by have := HGS.out; rw [if_pos hneg] at this; exact this.symm
    have hGb : -1000000000 ≤ G ∧ G ≤ 1000000000 := by omega
    go_wp2
  case' neg =>
    have hG : (g : Int) = G := by have := HGS.out; rw [if_neg hneg] at this; exact this.symm
    have hGb : -1000000000 ≤ G ∧ G ≤ 1000000000 := by omega
    rw [hG]
    go_wp2
  all_goals
    have q0 : (G == 0) = false := beq_false_of_ne hne
    clear hG
    go_loopw [16] (fun iv wr => LoRel w w.heap.size 22 G [x0, x1, x2, x3, x4, x5] iv wr) (fun iv _ => 6 - (intOf iv).toNat)
    case atStart => exact ⟨0, Nat.zero_le _, rfl, HA.out, HR.out, HB.out⟩
    case round =>
      clear HA HR HB
      obtain ⟨i, hi, rfl, hrow, hres, hb⟩ := hrel
      have HROW := Lib.hid hrow
      have HRES := Lib.hid hres
      have HB := Lib.hid hb
      clear hrow hres hb
      by_cases hil : i < 6
      · obtain ⟨x, hx⟩ : ∃ x, [x0, x1, x2, x3, x4, x5][i]? = some x := ⟨[x0, x1, x2, x3, x4, x5][i], List.getElem?_eq_getElem _⟩
        have hilI : (i : Int) < 6 := by omega
        have hiI : (0 : Int) ≤ (i : Int) := by omega
        have hxb := HX.out x (List.mem_of_getElem? hx)
        have m0 := HROW.out.cell (quoL_at (G := G) hx)
        have f0 := HROW.out.frozen i
        obtain ⟨y, hy⟩ : ∃ y, x.tdiv G = y := ⟨_, rfl⟩
        have hyb : -1000000000 ≤ y ∧ y ≤ 1000000000 := by rw [← hy]; exact tdiv_bound hxb
        have hy2 : IntKind.i64.wrap y = y := IntWalk.i64_in _ (by omega)
        have HXI := Lib.hid hx
        have HY := Lib.hid hy
        clear hx
        go_wp2
        refine ⟨⟨i + 1, by omega, by go_num, ?_, HRES.out.other _ (by omega), HB.out.setCell (Nat.le_refl _) _⟩, by simp [intOf]; omega⟩
        have h := HROW.out.set i y
        rw [← HY.out, quoL_set HXI.out] at h
        rw [HY.out] at h
        exact h
      · obtain rfl : i = 6 := by omega
        have hl6 : quoL G [x0, x1, x2, x3, x4, x5] 6 = [x0.tdiv G, x1.tdiv G, x2.tdiv G, x3.tdiv G, x4.tdiv G, x5.tdiv G] := rfl
        have hrow := HROW.out
        rw [hl6] at hrow
        generalize x0.tdiv G = y0 at *
        generalize x1.tdiv G = y1 at *
        generalize x2.tdiv G = y2 at *
        generalize x3.tdiv G = y3 at *
        generalize x4.tdiv G = y4 at *
        generalize x5.tdiv G = y5 at *
        have hyb := tdiv_bound (G := G) hd
        have hy2 : IntKind.i64.wrap (d.tdiv G) = d.tdiv G := IntWalk.i64_in _ (by omega)
        obtain ⟨ye, hye⟩ : ∃ ye, d.tdiv G = ye := ⟨_, rfl⟩
        rw [hye] at hyb hy2
        have m0 := hrow.cell (i := 0) (x := y0) rfl
        have m1 := hrow.cell (i := 1) (x := y1) rfl
        have m2 := hrow.cell (i := 2) (x := y2) rfl
        have m3 := hrow.cell (i := 3) (x := y3) rfl
        have m4 := hrow.cell (i := 4) (x := y4) rfl
        have m5 := hrow.cell (i := 5) (x := y5) rfl
        have hlt := hrow.lt
        clear hrow hl6 HROW
        go_wp2
        go_region_held3 (fun w' => w'.cell? ⟨w.heap.size, 0, none⟩ = some (.int .i64 y0) ∧ w'.cell? ⟨w.heap.size, 1, none⟩ = some (.int .i64 y1) ∧ w'.cell? ⟨w.heap.size, 2, none⟩ = some (.int .i64 y2) ∧ w'.cell? ⟨w.heap.size, 3, none⟩ = some (.int .i64 y3) ∧ w'.cell? ⟨w.heap.size, 4, none⟩ = some (.int .i64 y4) ∧ w'.cell? ⟨w.heap.size, 5, none⟩ = some (.int .i64 y5)) (go_keep) (fail)
        clear m0 m1 m2 m3 m4 m5
        have hz := HB.out.size
        go_wp2_with fail
        refine (fits_any y0 y1 y2 y3 y4 y5 ye _).mono ?_
        rintro e w3 ⟨he, hb3⟩
        subst he
        have hb3' : Below wr.heap.size wr w3 := (belA wr _).drew.trans (hb3.mono (by simp))
        have hres := HRES.out.up hb3'
        have hbox : w3.heap[wr.heap.size]? = some (.cells #[.int .i64 y0, .int .i64 y1, .int .i64 y2, .int .i64 y3, .int .i64 y4, .int .i64 y5, .int .i64 ye] 24 (0, 0)) := (hb3.block _ (by simp)).trans (heap_alloc_new wr _)
        obtain ⟨r0, r1, r2, r3, r4, r5, r6⟩ := hres.r7
        obtain ⟨n0, n1, n2, n3, n4, n5, n6⟩ := RowI.r7 (x0 := y0) (x1 := y1) (x2 := y2) (x3 := y3) (x4 := y4) (x5 := y5) (d := ye) hbox
        simp only [Nat.zero_add] at r0 r1 r2 r3 r4 r5 r6 n0 n1 n2 n3 n4 n5 n6
        have f0 := hres.frozen 0
        have f1 := hres.frozen 1
        have f2 := hres.frozen 2
        have f3 := hres.frozen 3
        have f4 := hres.frozen 4
        have f5 := hres.frozen 5
        have f6 := hres.frozen 6
        have hB3 : Below w.heap.size w w3 := HB.out.trans (hb3'.mono hz)
        have HB3 := Lib.hid hB3
        have HRS := Lib.hid hres
        have HYE := Lib.hid hye
        clear hB3 hb3 hb3' hres hbox hye HB HRES
        have hWE : RW = if Rt.fits ⟨⟨y0, y1, y2, y3, y4, y5⟩, ye⟩ = true then (⟨⟨y0, y1, y2, y3, y4, y5⟩, ye⟩, 0) else (Rt.zero, 7) := by rw [← HYE.out]; exact HW.out
        have HWE := Lib.hid hWE
        clear hWE HW
        by_cases hf : Rt.fits ⟨⟨y0, y1, y2, y3, y4, y5⟩, ye⟩ = true
        · rw [hf]
          have HF := Lib.hid hf
          clear hf
          go_wp2
          change bodyPost _ _ _ _ _ (putR w3 (w.heap.size + 1) y0 y1 y2 y3 y4 y5 ye)
          obtain ⟨c0, c1, c2, c3, c4, c5, c6⟩ := (putR_row HRS.out y0 y1 y2 y3 y4 y5 ye).r7
          have hB := putR_below HB3.out (show w.heap.size ≤ w.heap.size + 1 by omega) y0 y1 y2 y3 y4 y5 ye
          generalize putR w3 (w.heap.size + 1) y0 y1 y2 y3 y4 y5 ye = W' at *
          simp only [Nat.zero_add] at c0 c1 c2 c3 c4 c5 c6
          refine bodyPost_ret (v := .tuple #[.agg #[.int .i64 y0, .int .i64 y1, .int .i64 y2, .int .i64 y3, .int .i64 y4, .int .i64 y5, .int .i64 ye], .int .i64 0]) (by simp [results, Tryd.results187, c0, c1, c2, c3, c4, c5, c6, go_sem]) rfl ⟨?_, hB⟩
          rw [HWE.out, if_pos HF.out]
          rfl
        · have hf : Rt.fits ⟨⟨y0, y1, y2, y3, y4, y5⟩, ye⟩ = false := by simpa using hf
          rw [hf]
          have HF := Lib.hid hf
          clear hf
          go_wp2
          change bodyPost _ _ _ _ _ (putR w3 (w.heap.size + 1) 0 0 0 0 0 0 0)
          obtain ⟨c0, c1, c2, c3, c4, c5, c6⟩ := (putR_row HRS.out 0 0 0 0 0 0 0).r7
          have hB := putR_below HB3.out (show w.heap.size ≤ w.heap.size + 1 by omega) 0 0 0 0 0 0 0
          generalize putR w3 (w.heap.size + 1) 0 0 0 0 0 0 0 = W' at *
          simp only [Nat.zero_add] at c0 c1 c2 c3 c4 c5 c6
          refine bodyPost_ret (v := .tuple #[.agg #[.int .i64 0, .int .i64 0, .int .i64 0, .int .i64 0, .int .i64 0, .int .i64 0, .int .i64 0], .int .i64 7]) (by simp [results, Tryd.results187, c0, c1, c2, c3, c4, c5, c6, go_sem]) rfl ⟨?_, hB⟩
          rw [HWE.out, if_neg (by rw [HF.out]; exact fun h => by cases h)]
          rfl
end Go.Proofs.YtmbcejldifobnaaDoor

namespace Go.Proofs.YtmbcejldifobnaaDoor
open Go.RowKit
theorem at7 {x0 x1 x2 x3 x4 x5 d n : Int} {i : Nat} (h : [x0, x1, x2, x3, x4, x5][i]? = some n) : [x0, x1, x2, x3, x4, x5, d][i]? = some n := by
  have hi := (List.getElem?_eq_some_iff.1 h).1
  show ([x0, x1, x2, x3, x4, x5] ++ [d])[i]? = _
  rw [List.getElem?_append_left hi]
  exact h
def mixL (Z O : List Int) (i : Nat) : List Int := Z.take i ++ O.drop i
theorem mixL_set {Z O : List Int} {i : Nat} {z : Int} (hl : Z.length = O.length) (h : Z[i]? = some z) : (mixL Z O i).set i z = mixL Z O (i + 1) := by
  have hi := (List.getElem?_eq_some_iff.1 h).1
  have h1 : (Z.take i).length = i := by rw [List.length_take]; omega
  have hd : O.drop i = O[i]'(by omega) :: O.drop (i + 1) := List.drop_eq_getElem_cons (by omega)
  unfold mixL
  rw [List.set_append, if_neg (by omega), h1, Nat.sub_self, hd, List.set_cons_zero, List.take_add_one, h]
  simp
theorem mixL_at {Z O : List Int} {i : Nat} (hl : Z.length = O.length) (hi : i < O.length) : ∃ o, (mixL Z O i)[i]? = some o := by
  unfold mixL
  have h1 : (Z.take i).length = i := by rw [List.length_take]; omega
  refine ⟨O[i], ?_⟩
  rw [List.getElem?_append_right (by omega), h1, Nat.sub_self, List.getElem?_drop, Nat.add_zero]
  exact List.getElem?_eq_getElem hi
def tpZ (x y xd yd s : Int) : Int := x * yd + s * y * xd
theorem zip_at {f : Int → Int → Int} {X Y : List Int} {i : Nat} {x y : Int} (hx : X[i]? = some x) (hy : Y[i]? = some y) : (List.zipWith f X Y)[i]? = some (f x y) := by
  rw [List.getElem?_zipWith, hx, hy]
def tpL (X Y : List Int) (xd yd s : Int) : List Int := List.zipWith (fun x y => tpZ x y xd yd s) X Y
def zero6 : List Int := [0, 0, 0, 0, 0, 0]
def TpRel (w : World) (B : Nat) (X Y : List Int) (xd yd s : Int) (iv : Value) (wr : World) : Prop :=
  ∃ i : Nat, i ≤ 6 ∧ iv = .int .i64 (i : Int) ∧ RowI wr B 24 (X ++ [xd]) ∧ RowI wr (B + 1) 24 (Y ++ [yd]) ∧ RowI wr (B + 1 + 1) 22 (mixL (tpL X Y xd yd s) zero6 i) ∧ Below B w wr
theorem mul_bd {a b A B : Int} (ha : -A ≤ a ∧ a ≤ A) (hb : -B ≤ b ∧ b ≤ B) (hA : 0 ≤ A) : -(A * B) ≤ a * b ∧ a * b ≤ A * B := by
  have hB : 0 ≤ B := by omega
  have h1 : (a * b).natAbs ≤ A.natAbs * B.natAbs := by
    rw [Int.natAbs_mul]; exact Nat.mul_le_mul (by omega) (by omega)
  have h2 : ((A.natAbs * B.natAbs : Nat) : Int) = A * B := by rw [Int.natCast_mul]; congr 1 <;> omega
  omega
theorem RowI.drew {w : World} {g : Nat} {t : TypeId} {L : List Int} (h : RowI w g t L) : RowI w.drew g t L := h
def putA (w : World) (g : Nat) (x0 x1 x2 x3 x4 x5 : Int) : World :=
  (((((w.setCell ⟨g, 0, none⟩ (.int .i64 x0)).setCell ⟨g, 1, none⟩ (.int .i64 x1)).setCell ⟨g, 2, none⟩ (.int .i64 x2)).setCell ⟨g, 3, none⟩ (.int .i64 x3)).setCell ⟨g, 4, none⟩ (.int .i64 x4)).setCell ⟨g, 5, none⟩ (.int .i64 x5)
theorem putA_row {w : World} {g : Nat} {t : TypeId} {a0 a1 a2 a3 a4 a5 : Int} (h : RowI w g t [a0, a1, a2, a3, a4, a5]) (x0 x1 x2 x3 x4 x5 : Int) : RowI (putA w g x0 x1 x2 x3 x4 x5) g t [x0, x1, x2, x3, x4, x5] :=
  (((((h.set 0 x0).set 1 x1).set 2 x2).set 3 x3).set 4 x4).set 5 x5
theorem putA_below {w0 w : World} {B g : Nat} (h : Below B w0 w) (hg : B ≤ g) (x0 x1 x2 x3 x4 x5 : Int) : Below B w0 (putA w g x0 x1 x2 x3 x4 x5) :=
  (((((h.setCell hg _).setCell hg _).setCell hg _).setCell hg _).setCell hg _).setCell hg _
theorem putA_other {w : World} {g k : Nat} {t : TypeId} {L : List Int} (h : RowI w g t L) (hne : g ≠ k) (x0 x1 x2 x3 x4 x5 : Int) : RowI (putA w k x0 x1 x2 x3 x4 x5) g t L :=
  (((((h.other _ hne).other _ hne).other _ hne).other _ hne).other _ hne).other _ hne
def TpPost (w : World) (v : V6) (d : Int) (e : Ending) (w' : World) : Prop := e = .returned (.tuple #[.agg #[.int .i64 v.a, .int .i64 v.b, .int .i64 v.c, .int .i64 v.d, .int .i64 v.e, .int .i64 v.f], .int .i64 d]) ∧ Below w.heap.size w w'
set_option maxRecDepth 100000 in
set_option maxHeartbeats 1000000 in
theorem timesPower_any (x0 x1 x2 x3 x4 x5 xd y0 y1 y2 y3 y4 y5 yd s : Int) (w : World) (hx : ∀ n ∈ [x0, x1, x2, x3, x4, x5], -100000 ≤ n ∧ n ≤ 100000) (hy : ∀ n ∈ [y0, y1, y2, y3, y4, y5], -100000 ≤ n ∧ n ≤ 100000) (hxd : 1 ≤ xd ∧ xd ≤ 1000) (hyd : 1 ≤ yd ∧ yd ≤ 1000) (hs : -1 ≤ s ∧ s ≤ 1) :
    Calls Tryd.prog 40 #[.agg #[.int .i64 x0, .int .i64 x1, .int .i64 x2, .int .i64 x3, .int .i64 x4, .int .i64 x5, .int .i64 xd], .agg #[.int .i64 y0, .int .i64 y1, .int .i64 y2, .int .i64 y3, .int .i64 y4, .int .i64 y5, .int .i64 yd], .int .i64 s] w (TpPost w ⟨tpZ x0 y0 xd yd s, tpZ x1 y1 xd yd s, tpZ x2 y2 xd yd s, tpZ x3 y3 xd yd s, tpZ x4 y4 xd yd s, tpZ x5 y5 xd yd s⟩ (xd * yd)) := by
  have HX := Lib.hid hx
  have HY := Lib.hid hy
  clear hx hy
  go_enter Tryd.func40, Tryd.ntmps40
  go_wp2
  have hx0 : RowI (((w.alloc (.cells #[.int .i64 x0, .int .i64 x1, .int .i64 x2, .int .i64 x3, .int .i64 x4, .int .i64 x5, .int .i64 xd] 24)).alloc (.cells #[.int .i64 y0, .int .i64 y1, .int .i64 y2, .int .i64 y3, .int .i64 y4, .int .i64 y5, .int .i64 yd] 24)).alloc (.cells #[.int .i64 0, .int .i64 0, .int .i64 0, .int .i64 0, .int .i64 0, .int .i64 0] 22)) w.heap.size 24 ([x0, x1, x2, x3, x4, x5] ++ [xd]) :=
    ((belA _ _).block w.heap.size (by simp; omega)).trans (((belA _ _).block w.heap.size (by simp)).trans (heap_alloc_new w _))
  have hy0 : RowI (((w.alloc (.cells #[.int .i64 x0, .int .i64 x1, .int .i64 x2, .int .i64 x3, .int .i64 x4, .int .i64 x5, .int .i64 xd] 24)).alloc (.cells #[.int .i64 y0, .int .i64 y1, .int .i64 y2, .int .i64 y3, .int .i64 y4, .int .i64 y5, .int .i64 yd] 24)).alloc (.cells #[.int .i64 0, .int .i64 0, .int .i64 0, .int .i64 0, .int .i64 0, .int .i64 0] 22)) (w.heap.size + 1) 24 ([y0, y1, y2, y3, y4, y5] ++ [yd]) := by
    have h := heap_alloc_new (w.alloc (.cells #[.int .i64 x0, .int .i64 x1, .int .i64 x2, .int .i64 x3, .int .i64 x4, .int .i64 x5, .int .i64 xd] 24)) (.cells #[.int .i64 y0, .int .i64 y1, .int .i64 y2, .int .i64 y3, .int .i64 y4, .int .i64 y5, .int .i64 yd] 24)
    rw [World.size_alloc] at h
    exact ((belA _ _).block (w.heap.size + 1) (by simp)).trans h
  have hz0 : RowI (((w.alloc (.cells #[.int .i64 x0, .int .i64 x1, .int .i64 x2, .int .i64 x3, .int .i64 x4, .int .i64 x5, .int .i64 xd] 24)).alloc (.cells #[.int .i64 y0, .int .i64 y1, .int .i64 y2, .int .i64 y3, .int .i64 y4, .int .i64 y5, .int .i64 yd] 24)).alloc (.cells #[.int .i64 0, .int .i64 0, .int .i64 0, .int .i64 0, .int .i64 0, .int .i64 0] 22)) (w.heap.size + 1 + 1) 22 (mixL (tpL [x0, x1, x2, x3, x4, x5] [y0, y1, y2, y3, y4, y5] xd yd s) zero6 0) := by
    have h := heap_alloc_new ((w.alloc (.cells #[.int .i64 x0, .int .i64 x1, .int .i64 x2, .int .i64 x3, .int .i64 x4, .int .i64 x5, .int .i64 xd] 24)).alloc (.cells #[.int .i64 y0, .int .i64 y1, .int .i64 y2, .int .i64 y3, .int .i64 y4, .int .i64 y5, .int .i64 yd] 24)) (.cells #[.int .i64 0, .int .i64 0, .int .i64 0, .int .i64 0, .int .i64 0, .int .i64 0] 22)
    rw [World.size_alloc, World.size_alloc] at h
    exact h
  have hb0 := ((belA w (.cells #[.int .i64 x0, .int .i64 x1, .int .i64 x2, .int .i64 x3, .int .i64 x4, .int .i64 x5, .int .i64 xd] 24)).alloc (by simp) (.cells #[.int .i64 y0, .int .i64 y1, .int .i64 y2, .int .i64 y3, .int .i64 y4, .int .i64 y5, .int .i64 yd] 24)).alloc (by simp; omega) (.cells #[.int .i64 0, .int .i64 0, .int .i64 0, .int .i64 0, .int .i64 0, .int .i64 0] 22)
  generalize ((w.alloc (.cells #[.int .i64 x0, .int .i64 x1, .int .i64 x2, .int .i64 x3, .int .i64 x4, .int .i64 x5, .int .i64 xd] 24)).alloc (.cells #[.int .i64 y0, .int .i64 y1, .int .i64 y2, .int .i64 y3, .int .i64 y4, .int .i64 y5, .int .i64 yd] 24)).alloc (.cells #[.int .i64 0, .int .i64 0, .int .i64 0, .int .i64 0, .int .i64 0, .int .i64 0] 22) = W0 at *
  have HX0 := Lib.hid hx0
  have HY0 := Lib.hid hy0
  have HZ0 := Lib.hid hz0
  have HB0 := Lib.hid hb0
  clear hx0 hy0 hz0 hb0
  go_loopw [9] (fun iv wr => TpRel w w.heap.size [x0, x1, x2, x3, x4, x5] [y0, y1, y2, y3, y4, y5] xd yd s iv wr) (fun iv _ => 6 - (intOf iv).toNat)
  case atStart => exact ⟨0, Nat.zero_le _, rfl, HX0.out, HY0.out, HZ0.out, HB0.out⟩
  case round =>
    clear HX0 HY0 HZ0 HB0
    obtain ⟨i, hi, rfl, hrx, hry, hrz, hb⟩ := hrel
    have HRX := Lib.hid hrx
    have HRY := Lib.hid hry
    have HRZ := Lib.hid hrz
    have HB := Lib.hid hb
    clear hrx hry hrz hb
    have kxd := HRX.out.cell (i := 6) (x := xd) rfl
    have kyd := HRY.out.cell (i := 6) (x := yd) rfl
    by_cases hil : i < 6
    · obtain ⟨x, hx⟩ : ∃ x, [x0, x1, x2, x3, x4, x5][i]? = some x := ⟨[x0, x1, x2, x3, x4, x5][i], List.getElem?_eq_getElem _⟩
      obtain ⟨y, hy⟩ : ∃ y, [y0, y1, y2, y3, y4, y5][i]? = some y := ⟨[y0, y1, y2, y3, y4, y5][i], List.getElem?_eq_getElem _⟩
      have hxb := HX.out x (List.mem_of_getElem? hx)
      have hyb := HY.out y (List.mem_of_getElem? hy)
      have kx := HRX.out.cell (at7 (d := xd) hx)
      have ky := HRY.out.cell (at7 (d := yd) hy)
      obtain ⟨o, ho⟩ := mixL_at (Z := tpL [x0, x1, x2, x3, x4, x5] [y0, y1, y2, y3, y4, y5] xd yd s) (O := zero6) (i := i) rfl hil
      have kz := HRZ.out.cell ho
      have fz := HRZ.out.frozen i
      have hset := mixL_set (Z := tpL [x0, x1, x2, x3, x4, x5] [y0, y1, y2, y3, y4, y5] xd yd s) (O := zero6) (i := i) rfl (zip_at hx hy)
      have HSET := Lib.hid hset
      have hilI : (i : Int) < 6 := by omega
      have hiI : (0 : Int) ≤ (i : Int) := by omega
      have p1 := mul_bd (A := 100000) (B := 1000) hxb (show -1000 ≤ yd ∧ yd ≤ 1000 by omega) (by omega)
      have p2 := mul_bd (A := 1) (B := 100000) hs hyb (by omega)
      have p3 := mul_bd (a := s * y) (A := 100000) (B := 1000) (by omega) (show -1000 ≤ xd ∧ xd ≤ 1000 by omega) (by omega)
      obtain ⟨P, hP⟩ : ∃ P, x * yd = P := ⟨_, rfl⟩
      obtain ⟨Q, hQ⟩ : ∃ Q, s * y = Q := ⟨_, rfl⟩
      rw [hP] at p1
      rw [hQ] at p2 p3
      obtain ⟨R, hR⟩ : ∃ R, Q * xd = R := ⟨_, rfl⟩
      rw [hR] at p3
      obtain ⟨T, hT⟩ : ∃ T, P + R = T := ⟨_, rfl⟩
      have hTZ : tpZ x y xd yd s = T := by unfold tpZ; rw [hP, hQ, hR, hT]
      have e1 : IntKind.i64.wrap P = P := IntWalk.i64_in _ (by omega)
      have e2 : IntKind.i64.wrap Q = Q := IntWalk.i64_in _ (by omega)
      have e3 : IntKind.i64.wrap R = R := IntWalk.i64_in _ (by omega)
      have e4 : IntKind.i64.wrap T = T := IntWalk.i64_in _ (by omega)
      have HTZ := Lib.hid hTZ
      have kp0 : (wr.setCell ⟨w.heap.size + 1 + 1, i, none⟩ (.int .i64 T)).drew.cell? ⟨w.heap.size, i, none⟩ = some (.int .i64 x) := (HRX.out.other (.int .i64 T) (by omega)).cell (at7 (d := xd) hx)
      have kp1 : (wr.setCell ⟨w.heap.size + 1 + 1, i, none⟩ (.int .i64 T)).drew.cell? ⟨w.heap.size, 6, none⟩ = some (.int .i64 xd) := (HRX.out.other (.int .i64 T) (by omega)).cell (i := 6) rfl
      have kp2 : (wr.setCell ⟨w.heap.size + 1 + 1, i, none⟩ (.int .i64 T)).drew.cell? ⟨w.heap.size + 1, i, none⟩ = some (.int .i64 y) := (HRY.out.other (.int .i64 T) (by omega)).cell (at7 (d := yd) hy)
      have kp3 : (wr.setCell ⟨w.heap.size + 1 + 1, i, none⟩ (.int .i64 T)).drew.cell? ⟨w.heap.size + 1, 6, none⟩ = some (.int .i64 yd) := (HRY.out.other (.int .i64 T) (by omega)).cell (i := 6) rfl
      clear hx hy ho hset hTZ
      go_wp2
      go_region_held3 (fun w' => w'.cell? ⟨w.heap.size, i, none⟩ = some (.int .i64 x) ∧ w'.cell? ⟨w.heap.size, 6, none⟩ = some (.int .i64 xd) ∧ w'.cell? ⟨w.heap.size + 1, i, none⟩ = some (.int .i64 y) ∧ w'.cell? ⟨w.heap.size + 1, 6, none⟩ = some (.int .i64 yd)) (first | (refine ⟨?_, ?_, ?_, ?_⟩ <;> with_reducible assumption) | go_keep) (fail)
      go_wp2
      refine ⟨⟨i + 1, by omega, by go_num, ?_, ?_, ?_, ?_⟩, by simp [intOf]; omega⟩
      · exact HRX.out.other _ (by omega)
      · exact HRY.out.other _ (by omega)
      · have h := HRZ.out.set i T
        rw [← HTZ.out, HSET.out, HTZ.out] at h
        exact h
      · exact (HB.out.setCell (by show w.heap.size ≤ w.heap.size + 1 + 1; omega) _).drew
    · obtain rfl : i = 6 := by omega
      have hl6 : mixL (tpL [x0, x1, x2, x3, x4, x5] [y0, y1, y2, y3, y4, y5] xd yd s) zero6 6 = [tpZ x0 y0 xd yd s, tpZ x1 y1 xd yd s, tpZ x2 y2 xd yd s, tpZ x3 y3 xd yd s, tpZ x4 y4 xd yd s, tpZ x5 y5 xd yd s] := rfl
      have hrow := HRZ.out
      rw [hl6] at hrow
      clear HRZ hl6
      generalize tpZ x0 y0 xd yd s = z0 at *
      generalize tpZ x1 y1 xd yd s = z1 at *
      generalize tpZ x2 y2 xd yd s = z2 at *
      generalize tpZ x3 y3 xd yd s = z3 at *
      generalize tpZ x4 y4 xd yd s = z4 at *
      generalize tpZ x5 y5 xd yd s = z5 at *
      have m0 := hrow.cell (i := 0) (x := z0) rfl
      have m1 := hrow.cell (i := 1) (x := z1) rfl
      have m2 := hrow.cell (i := 2) (x := z2) rfl
      have m3 := hrow.cell (i := 3) (x := z3) rfl
      have m4 := hrow.cell (i := 4) (x := z4) rfl
      have m5 := hrow.cell (i := 5) (x := z5) rfl
      have f0 := hrow.frozen 0
      have f1 := hrow.frozen 1
      have f2 := hrow.frozen 2
      have f3 := hrow.frozen 3
      have f4 := hrow.frozen 4
      have f5 := hrow.frozen 5
      have p1 := mul_bd (A := 1000) (B := 1000) (show -1000 ≤ xd ∧ xd ≤ 1000 by omega) (show -1000 ≤ yd ∧ yd ≤ 1000 by omega) (by omega)
      obtain ⟨D, hD⟩ : ∃ D, xd * yd = D := ⟨_, rfl⟩
      rw [hD] at p1
      have e1 : IntKind.i64.wrap D = D := IntWalk.i64_in _ (by omega)
      have k0 := putA_row hrow z0 z1 z2 z3 z4 z5
      have k1 := putA_other HRX.out (show w.heap.size ≠ w.heap.size + 1 + 1 by omega) z0 z1 z2 z3 z4 z5
      have k2 := putA_other HRY.out (show w.heap.size + 1 ≠ w.heap.size + 1 + 1 by omega) z0 z1 z2 z3 z4 z5
      have hk : (putA wr (w.heap.size + 1 + 1) z0 z1 z2 z3 z4 z5).drew.cell? ⟨w.heap.size + 1 + 1, 0, none⟩ = some (.int .i64 z0) ∧ (putA wr (w.heap.size + 1 + 1) z0 z1 z2 z3 z4 z5).drew.cell? ⟨w.heap.size + 1 + 1, 1, none⟩ = some (.int .i64 z1) ∧ (putA wr (w.heap.size + 1 + 1) z0 z1 z2 z3 z4 z5).drew.cell? ⟨w.heap.size + 1 + 1, 2, none⟩ = some (.int .i64 z2) ∧ (putA wr (w.heap.size + 1 + 1) z0 z1 z2 z3 z4 z5).drew.cell? ⟨w.heap.size + 1 + 1, 3, none⟩ = some (.int .i64 z3) ∧ (putA wr (w.heap.size + 1 + 1) z0 z1 z2 z3 z4 z5).drew.cell? ⟨w.heap.size + 1 + 1, 4, none⟩ = some (.int .i64 z4) ∧ (putA wr (w.heap.size + 1 + 1) z0 z1 z2 z3 z4 z5).drew.cell? ⟨w.heap.size + 1 + 1, 5, none⟩ = some (.int .i64 z5) ∧ (putA wr (w.heap.size + 1 + 1) z0 z1 z2 z3 z4 z5).drew.cell? ⟨w.heap.size, 6, none⟩ = some (.int .i64 xd) ∧ (putA wr (w.heap.size + 1 + 1) z0 z1 z2 z3 z4 z5).drew.cell? ⟨w.heap.size + 1, 6, none⟩ = some (.int .i64 yd) :=
        ⟨k0.drew.cell (i := 0) (x := z0) rfl, k0.drew.cell (i := 1) (x := z1) rfl, k0.drew.cell (i := 2) (x := z2) rfl, k0.drew.cell (i := 3) (x := z3) rfl, k0.drew.cell (i := 4) (x := z4) rfl, k0.drew.cell (i := 5) (x := z5) rfl, k1.drew.cell (i := 6) (x := xd) rfl, k2.drew.cell (i := 6) (x := yd) rfl⟩
      unfold putA at hk
      have HK := Lib.hid hk
      clear hk
      have HK0 := Lib.hid k0
      have hb6 := putA_below HB.out (show w.heap.size ≤ w.heap.size + 1 + 1 by omega) z0 z1 z2 z3 z4 z5
      have HB6 := Lib.hid hb6
      clear k0 k1 k2 hrow hb6
      go_wp2
      go_region_held3 (fun w' => w'.cell? ⟨w.heap.size + 1 + 1, 0, none⟩ = some (.int .i64 z0) ∧ w'.cell? ⟨w.heap.size + 1 + 1, 1, none⟩ = some (.int .i64 z1) ∧ w'.cell? ⟨w.heap.size + 1 + 1, 2, none⟩ = some (.int .i64 z2) ∧ w'.cell? ⟨w.heap.size + 1 + 1, 3, none⟩ = some (.int .i64 z3) ∧ w'.cell? ⟨w.heap.size + 1 + 1, 4, none⟩ = some (.int .i64 z4) ∧ w'.cell? ⟨w.heap.size + 1 + 1, 5, none⟩ = some (.int .i64 z5) ∧ w'.cell? ⟨w.heap.size, 6, none⟩ = some (.int .i64 xd) ∧ w'.cell? ⟨w.heap.size + 1, 6, none⟩ = some (.int .i64 yd)) (first | with_reducible exact HK.out | go_keep) (fail)
      clear m0 m1 m2 m3 m4 m5 f0 f1 f2 f3 f4 f5 kxd kyd
      go_wp2
      change bodyPost _ _ _ _ _ (putA wr (w.heap.size + 1 + 1) z0 z1 z2 z3 z4 z5).drew
      have k0 := HK0.out.drew
      have hB := HB6.out.drew
      clear HK0 HB6 HK
      generalize (putA wr (w.heap.size + 1 + 1) z0 z1 z2 z3 z4 z5).drew = W' at *
      have c0 := k0.cell (i := 0) (x := z0) rfl
      have c1 := k0.cell (i := 1) (x := z1) rfl
      have c2 := k0.cell (i := 2) (x := z2) rfl
      have c3 := k0.cell (i := 3) (x := z3) rfl
      have c4 := k0.cell (i := 4) (x := z4) rfl
      have c5 := k0.cell (i := 5) (x := z5) rfl
      refine bodyPost_ret (v := .tuple #[.agg #[.int .i64 z0, .int .i64 z1, .int .i64 z2, .int .i64 z3, .int .i64 z4, .int .i64 z5], .int .i64 D]) (by simp [results, Tryd.results40, c0, c1, c2, c3, c4, c5, go_sem]) rfl ⟨?_, hB⟩
      rw [hD]
end Go.Proofs.YtmbcejldifobnaaDoor

namespace Go.Proofs.YtmbcejldifobnaaDoor
open Go.RowKit
theorem RowI.of_alloc (w : World) (t : TypeId) (L : List Int) : RowI (w.alloc (.cells (L.map (Value.int .i64)).toArray t)) w.heap.size t L := heap_alloc_new w _
theorem RowI.alloc {w : World} {g : Nat} {t : TypeId} {L : List Int} (h : RowI w g t L) (o : Obj) : RowI (w.alloc o) g t L := h.up (belA w o)
theorem exR_two (x y : Rt) : exR [x, y] = if x.err = 0 then y.err else x.err := by
  unfold exR exR exR
  by_cases h1 : x.err = 0
  · rw [if_pos h1, if_pos h1]
    by_cases h2 : y.err = 0
    · rw [if_pos h2, h2]
    · rw [if_neg h2]
  · rw [if_neg h1, if_neg h1]
theorem cell_two {w : World} {g : Nat} {x y : Rt} (h : w.heap[g]? = some (.cells (cellsR x ++ cellsR y).toArray 24 (0, 0))) : ∀ i r, [x, y][i]? = some r → CellR w g (i * 7) r := by
  intro i r hi
  have c := fun j => Go.Joins.cell_of_block h j
  match i, hi with
  | 0, hi => cases hi; exact ⟨c 0, c 1, c 2, c 3, c 4, c 5, c 6⟩
  | 1, hi => cases hi; exact ⟨c 7, c 8, c 9, c 10, c 11, c 12, c 13⟩
theorem cell_one1 {w : World} {g : Nat} {x : Rt} (h : w.heap[g]? = some (.cells (cellsR x).toArray 24 (0, 0))) : ∀ i r, [x][i]? = some r → CellR w g (i * 7) r := by
  intro i r hi
  have c := fun j => Go.Joins.cell_of_block h j
  match i, hi with
  | 0, hi => cases hi; exact ⟨c 0, c 1, c 2, c 3, c 4, c 5, c 6⟩
theorem exR_one (x : Rt) : exR [x] = x.err := by
  unfold exR exR
  by_cases h1 : x.err = 0
  · rw [if_pos h1, h1]
  · rw [if_neg h1]
theorem tpZ_bd {x y xd yd s : Int} (hx : -100000 ≤ x ∧ x ≤ 100000) (hy : -100000 ≤ y ∧ y ≤ 100000) (hxd : 1 ≤ xd ∧ xd ≤ 1000) (hyd : 1 ≤ yd ∧ yd ≤ 1000) (hs : -1 ≤ s ∧ s ≤ 1) : -1000000000 ≤ tpZ x y xd yd s ∧ tpZ x y xd yd s ≤ 1000000000 := by
  have p1 := mul_bd (A := 100000) (B := 1000) hx (show -1000 ≤ yd ∧ yd ≤ 1000 by omega) (by omega)
  have p2 := mul_bd (A := 1) (B := 100000) hs hy (by omega)
  have p3 := mul_bd (a := s * y) (A := 100000) (B := 1000) (by omega) (show -1000 ≤ xd ∧ xd ≤ 1000 by omega) (by omega)
  unfold tpZ
  omega
theorem Rt.err_cases (r : Rt) : r.err = 0 ∨ r.err = 2 ∨ r.err = 6 := by
  unfold Rt.err
  split
  · split
    · exact .inl rfl
    · exact .inr (.inr rfl)
  · exact .inr (.inl rfl)
set_option maxRecDepth 100000 in
set_option maxHeartbeats 1000000 in
theorem Div_any (x0 x1 x2 x3 x4 x5 xd y0 y1 y2 y3 y4 y5 yd : Int) (w : World) :
    Calls Tryd.prog 160 #[.agg #[.int .i64 x0, .int .i64 x1, .int .i64 x2, .int .i64 x3, .int .i64 x4, .int .i64 x5, .int .i64 xd], .agg #[.int .i64 y0, .int .i64 y1, .int .i64 y2, .int .i64 y3, .int .i64 y4, .int .i64 y5, .int .i64 yd]] w (RtPost w (bothW ⟨⟨x0, x1, x2, x3, x4, x5⟩, xd⟩ ⟨⟨y0, y1, y2, y3, y4, y5⟩, yd⟩ (-1))) := by
  have hT : timesW ⟨⟨x0, x1, x2, x3, x4, x5⟩, xd⟩ ⟨⟨y0, y1, y2, y3, y4, y5⟩, yd⟩ (-1) = (⟨tpZ x0 y0 xd yd (-1), tpZ x1 y1 xd yd (-1), tpZ x2 y2 xd yd (-1), tpZ x3 y3 xd yd (-1), tpZ x4 y4 xd yd (-1), tpZ x5 y5 xd yd (-1)⟩, xd * yd) := by
    unfold timesW
    refine Prod.ext (V6.eq ?_ ?_ ?_ ?_ ?_ ?_) rfl <;> simp only [V6.scl, V6.add, tpZ] <;> grind
  have hW : bothW ⟨⟨x0, x1, x2, x3, x4, x5⟩, xd⟩ ⟨⟨y0, y1, y2, y3, y4, y5⟩, yd⟩ (-1) = if Rt.err ⟨⟨x0, x1, x2, x3, x4, x5⟩, xd⟩ = 0 then (if Rt.err ⟨⟨y0, y1, y2, y3, y4, y5⟩, yd⟩ = 0 then lowW ⟨tpZ x0 y0 xd yd (-1), tpZ x1 y1 xd yd (-1), tpZ x2 y2 xd yd (-1), tpZ x3 y3 xd yd (-1), tpZ x4 y4 xd yd (-1), tpZ x5 y5 xd yd (-1)⟩ (xd * yd) else (Rt.zero, Rt.err ⟨⟨y0, y1, y2, y3, y4, y5⟩, yd⟩)) else (Rt.zero, Rt.err ⟨⟨x0, x1, x2, x3, x4, x5⟩, xd⟩) := by
    unfold bothW
    rw [hT]
  have hE := exR_two ⟨⟨x0, x1, x2, x3, x4, x5⟩, xd⟩ ⟨⟨y0, y1, y2, y3, y4, y5⟩, yd⟩
  have hokx := fun h => (Rt.ok_iff (r := ⟨⟨x0, x1, x2, x3, x4, x5⟩, xd⟩)).1 h
  have hoky := fun h => (Rt.ok_iff (r := ⟨⟨y0, y1, y2, y3, y4, y5⟩, yd⟩)).1 h
  have hcx := Rt.err_cases ⟨⟨x0, x1, x2, x3, x4, x5⟩, xd⟩
  have hcy := Rt.err_cases ⟨⟨y0, y1, y2, y3, y4, y5⟩, yd⟩
  have hex := fun (W : World) (g : Nat) (h : W.heap[g]? = some (.cells (cellsR ⟨⟨x0, x1, x2, x3, x4, x5⟩, xd⟩ ++ cellsR ⟨⟨y0, y1, y2, y3, y4, y5⟩, yd⟩).toArray 24 (0, 0))) => examineR_any g [⟨⟨x0, x1, x2, x3, x4, x5⟩, xd⟩, ⟨⟨y0, y1, y2, y3, y4, y5⟩, yd⟩] W (Array.getElem?_eq_some_iff.1 h).1 (cell_two h) (by simp)
  rw [hE] at hex
  have HEX := Lib.hid hex
  have HOX := Lib.hid hokx
  have HOY := Lib.hid hoky
  clear hex hT hE hokx hoky
  generalize bothW ⟨⟨x0, x1, x2, x3, x4, x5⟩, xd⟩ ⟨⟨y0, y1, y2, y3, y4, y5⟩, yd⟩ (-1) = RW at *
  have HW := Lib.hid hW
  clear hW
  generalize hex : Rt.err ⟨⟨x0, x1, x2, x3, x4, x5⟩, xd⟩ = ex at *
  generalize hey : Rt.err ⟨⟨y0, y1, y2, y3, y4, y5⟩, yd⟩ = ey at *
  have HXE := Lib.hid hex
  have HYE := Lib.hid hey
  clear hex hey
  generalize hEE : (if ex = 0 then ey else ex) = E at HEX
  have HEE := Lib.hid hEE
  clear hEE
  go_enter Tryd.func160, Tryd.ntmps160
  have hr3 : RowI (((w.alloc (.cells #[.int .i64 x0, .int .i64 x1, .int .i64 x2, .int .i64 x3, .int .i64 x4, .int .i64 x5, .int .i64 xd] 24)).alloc (.cells #[.int .i64 y0, .int .i64 y1, .int .i64 y2, .int .i64 y3, .int .i64 y4, .int .i64 y5, .int .i64 yd] 24)).alloc (.cells #[.int .i64 0, .int .i64 0, .int .i64 0, .int .i64 0, .int .i64 0, .int .i64 0, .int .i64 0] 24)) (w.heap.size + 1 + 1) 24 [0, 0, 0, 0, 0, 0, 0] := by
    have h := RowI.of_alloc ((w.alloc (.cells #[.int .i64 x0, .int .i64 x1, .int .i64 x2, .int .i64 x3, .int .i64 x4, .int .i64 x5, .int .i64 xd] 24)).alloc (.cells #[.int .i64 y0, .int .i64 y1, .int .i64 y2, .int .i64 y3, .int .i64 y4, .int .i64 y5, .int .i64 yd] 24)) 24 [0, 0, 0, 0, 0, 0, 0]
    rw [World.size_alloc, World.size_alloc] at h
    exact h
  have hr1 : RowI (((w.alloc (.cells #[.int .i64 x0, .int .i64 x1, .int .i64 x2, .int .i64 x3, .int .i64 x4, .int .i64 x5, .int .i64 xd] 24)).alloc (.cells #[.int .i64 y0, .int .i64 y1, .int .i64 y2, .int .i64 y3, .int .i64 y4, .int .i64 y5, .int .i64 yd] 24)).alloc (.cells #[.int .i64 0, .int .i64 0, .int .i64 0, .int .i64 0, .int .i64 0, .int .i64 0, .int .i64 0] 24)) w.heap.size 24 [x0, x1, x2, x3, x4, x5, xd] := ((RowI.of_alloc w 24 [x0, x1, x2, x3, x4, x5, xd]).alloc _).alloc _
  have hr2 : RowI (((w.alloc (.cells #[.int .i64 x0, .int .i64 x1, .int .i64 x2, .int .i64 x3, .int .i64 x4, .int .i64 x5, .int .i64 xd] 24)).alloc (.cells #[.int .i64 y0, .int .i64 y1, .int .i64 y2, .int .i64 y3, .int .i64 y4, .int .i64 y5, .int .i64 yd] 24)).alloc (.cells #[.int .i64 0, .int .i64 0, .int .i64 0, .int .i64 0, .int .i64 0, .int .i64 0, .int .i64 0] 24)) (w.heap.size + 1) 24 [y0, y1, y2, y3, y4, y5, yd] := by
    have h := (RowI.of_alloc (w.alloc (.cells #[.int .i64 x0, .int .i64 x1, .int .i64 x2, .int .i64 x3, .int .i64 x4, .int .i64 x5, .int .i64 xd] 24)) 24 [y0, y1, y2, y3, y4, y5, yd]).alloc (.cells #[.int .i64 0, .int .i64 0, .int .i64 0, .int .i64 0, .int .i64 0, .int .i64 0, .int .i64 0] 24)
    rw [World.size_alloc] at h
    exact h
  have hb0 := ((belA w (.cells #[.int .i64 x0, .int .i64 x1, .int .i64 x2, .int .i64 x3, .int .i64 x4, .int .i64 x5, .int .i64 xd] 24)).alloc (by simp) (.cells #[.int .i64 y0, .int .i64 y1, .int .i64 y2, .int .i64 y3, .int .i64 y4, .int .i64 y5, .int .i64 yd] 24)).alloc (by simp; omega) (.cells #[.int .i64 0, .int .i64 0, .int .i64 0, .int .i64 0, .int .i64 0, .int .i64 0, .int .i64 0] 24)
  have HR1 := Lib.hid hr1
  have HR2 := Lib.hid hr2
  have HR3 := Lib.hid hr3
  have HB0 := Lib.hid hb0
  clear hr1 hr2 hr3 hb0
  go_wp2_with fail
  refine (HEX.out _ _ (by have h := heap_alloc_new (((w.alloc (.cells #[.int .i64 x0, .int .i64 x1, .int .i64 x2, .int .i64 x3, .int .i64 x4, .int .i64 x5, .int .i64 xd] 24)).alloc (.cells #[.int .i64 y0, .int .i64 y1, .int .i64 y2, .int .i64 y3, .int .i64 y4, .int .i64 y5, .int .i64 yd] 24)).alloc (.cells #[.int .i64 0, .int .i64 0, .int .i64 0, .int .i64 0, .int .i64 0, .int .i64 0, .int .i64 0] 24)) (.cells (cellsR ⟨⟨x0, x1, x2, x3, x4, x5⟩, xd⟩ ++ cellsR ⟨⟨y0, y1, y2, y3, y4, y5⟩, yd⟩).toArray 24); rw [World.size_alloc, World.size_alloc, World.size_alloc] at h; exact h)).mono ?_
  rintro e w1 ⟨he, hb1⟩
  subst he
  have hb1' := (belA (((w.alloc (.cells #[.int .i64 x0, .int .i64 x1, .int .i64 x2, .int .i64 x3, .int .i64 x4, .int .i64 x5, .int .i64 xd] 24)).alloc (.cells #[.int .i64 y0, .int .i64 y1, .int .i64 y2, .int .i64 y3, .int .i64 y4, .int .i64 y5, .int .i64 yd] 24)).alloc (.cells #[.int .i64 0, .int .i64 0, .int .i64 0, .int .i64 0, .int .i64 0, .int .i64 0, .int .i64 0] 24)) _).trans (hb1.mono (by simp))
  have hr1 := HR1.out.up hb1'
  have hr2 := HR2.out.up hb1'
  have hr3 := HR3.out.up hb1'
  have hb := HB0.out.trans (hb1'.mono (by simp; omega))
  clear HR1 HR2 HR3 HB0 hb1 hb1'
  have HR1 := Lib.hid hr1
  have HR2 := Lib.hid hr2
  have HR3 := Lib.hid hr3
  have HB := Lib.hid hb
  have hz := hb.size
  clear hr1 hr2 hr3 hb
  by_cases hE0 : E = 0
  · subst hE0
    have hx0 : ex = 0 := by
      have h := HEE.out
      by_cases h0 : ex = 0
      · exact h0
      · rw [if_neg h0] at h; exact h
    have hy0 : ey = 0 := by
      have h := HEE.out
      rw [if_pos hx0] at h; exact h
    have okx := HOX.out hx0
    have oky := HOY.out hy0
    obtain ⟨bx0, bx1, bx2, bx3, bx4, bx5, bxd⟩ := okx.nums
    obtain ⟨by0, by1, by2, by3, by4, by5, byd⟩ := oky.nums
    simp only at bx0 bx1 bx2 bx3 bx4 bx5 bxd by0 by1 by2 by3 by4 by5 byd
    have hWE : RW = lowW ⟨tpZ x0 y0 xd yd (-1), tpZ x1 y1 xd yd (-1), tpZ x2 y2 xd yd (-1), tpZ x3 y3 xd yd (-1), tpZ x4 y4 xd yd (-1), tpZ x5 y5 xd yd (-1)⟩ (xd * yd) := by
      have h := HW.out
      rw [if_pos hx0, if_pos hy0] at h
      exact h
    have hxl : ∀ n ∈ [x0, x1, x2, x3, x4, x5], -100000 ≤ n ∧ n ≤ 100000 := by
      simp only [List.mem_cons, List.not_mem_nil, or_false, forall_eq_or_imp, forall_eq]
      exact ⟨bx0, bx1, bx2, bx3, bx4, bx5⟩
    have hyl : ∀ n ∈ [y0, y1, y2, y3, y4, y5], -100000 ≤ n ∧ n ≤ 100000 := by
      simp only [List.mem_cons, List.not_mem_nil, or_false, forall_eq_or_imp, forall_eq]
      exact ⟨by0, by1, by2, by3, by4, by5⟩
    have htp := fun W => timesPower_any x0 x1 x2 x3 x4 x5 xd y0 y1 y2 y3 y4 y5 yd (-1) W hxl hyl bxd byd (by omega)
    have hzl : ∀ n ∈ [tpZ x0 y0 xd yd (-1), tpZ x1 y1 xd yd (-1), tpZ x2 y2 xd yd (-1), tpZ x3 y3 xd yd (-1), tpZ x4 y4 xd yd (-1), tpZ x5 y5 xd yd (-1)], -1000000000 ≤ n ∧ n ≤ 1000000000 := by
      simp only [List.mem_cons, List.not_mem_nil, or_false, forall_eq_or_imp, forall_eq]
      exact ⟨tpZ_bd bx0 by0 bxd byd (by omega), tpZ_bd bx1 by1 bxd byd (by omega), tpZ_bd bx2 by2 bxd byd (by omega), tpZ_bd bx3 by3 bxd byd (by omega), tpZ_bd bx4 by4 bxd byd (by omega), tpZ_bd bx5 by5 bxd byd (by omega)⟩
    have hdd := mul_bd (A := 1000) (B := 1000) (show -1000 ≤ xd ∧ xd ≤ 1000 by omega) (show -1000 ≤ yd ∧ yd ≤ 1000 by omega) (by omega)
    have hd0 : xd * yd ≠ 0 := Int.mul_ne_zero (by omega) (by omega)
    have hlo := fun W => lowest_any (tpZ x0 y0 xd yd (-1)) (tpZ x1 y1 xd yd (-1)) (tpZ x2 y2 xd yd (-1)) (tpZ x3 y3 xd yd (-1)) (tpZ x4 y4 xd yd (-1)) (tpZ x5 y5 xd yd (-1)) (xd * yd) W hd0 (by omega) hzl
    rw [← hWE] at hlo
    obtain ⟨c0, c1, c2, c3, c4, c5, c6⟩ := HR1.out.r7
    obtain ⟨d0, d1, d2, d3, d4, d5, d6⟩ := HR2.out.r7
    simp only [Nat.zero_add] at c0 c1 c2 c3 c4 c5 c6 d0 d1 d2 d3 d4 d5 d6
    have HTP := Lib.hid htp
    have HLO := Lib.hid hlo
    clear htp hlo hWE hx0 hy0 okx oky bx0 bx1 bx2 bx3 bx4 bx5 bxd by0 by1 by2 by3 by4 by5 byd hxl hyl hzl hdd hd0
    generalize tpZ x0 y0 xd yd (-1) = z0 at *
    generalize tpZ x1 y1 xd yd (-1) = z1 at *
    generalize tpZ x2 y2 xd yd (-1) = z2 at *
    generalize tpZ x3 y3 xd yd (-1) = z3 at *
    generalize tpZ x4 y4 xd yd (-1) = z4 at *
    generalize tpZ x5 y5 xd yd (-1) = z5 at *
    generalize xd * yd = zd at *
    go_wp2_with fail
    refine (HTP.out _).mono ?_
    rintro e w2 ⟨he, hb2⟩
    subst he
    have hr3 := HR3.out.up hb2
    have hb := HB.out.trans (hb2.mono hz)
    have hz2 := hb.size
    clear HR1 HR2 HR3 HB HTP c0 c1 c2 c3 c4 c5 c6 d0 d1 d2 d3 d4 d5 d6 hb2
    have HR3 := Lib.hid hr3
    have HB := Lib.hid hb
    clear hr3 hb
    go_wp2_with fail
    refine (HLO.out _).mono ?_
    rintro e w3 ⟨he, hb3⟩
    obtain ⟨⟨⟨r0, r1, r2, r3, r4, r5⟩, rd⟩, re⟩ := RW
    unfold rtv at he
    simp only at he
    subst he
    have hr3 := HR3.out.up hb3
    have hb := HB.out.trans (hb3.mono hz2)
    clear HR3 HB HLO HW hb3
    obtain ⟨c0, c1, c2, c3, c4, c5, c6⟩ := hr3.r7
    simp only [Nat.zero_add] at c0 c1 c2 c3 c4 c5 c6
    have f0 := hr3.frozen 0
    have f1 := hr3.frozen 1
    have f2 := hr3.frozen 2
    have f3 := hr3.frozen 3
    have f4 := hr3.frozen 4
    have f5 := hr3.frozen 5
    have f6 := hr3.frozen 6
    have HR3 := Lib.hid hr3
    have HB := Lib.hid hb
    clear hr3 hb
    go_wp2
    change bodyPost _ _ _ _ _ (putR w3 (w.heap.size + 1 + 1) r0 r1 r2 r3 r4 r5 rd)
    clear c0 c1 c2 c3 c4 c5 c6
    obtain ⟨c0, c1, c2, c3, c4, c5, c6⟩ := (putR_row HR3.out r0 r1 r2 r3 r4 r5 rd).r7
    have hB := putR_below HB.out (show w.heap.size ≤ w.heap.size + 1 + 1 by omega) r0 r1 r2 r3 r4 r5 rd
    generalize putR w3 (w.heap.size + 1 + 1) r0 r1 r2 r3 r4 r5 rd = W' at *
    simp only [Nat.zero_add] at c0 c1 c2 c3 c4 c5 c6
    exact bodyPost_ret (v := .tuple #[.agg #[.int .i64 r0, .int .i64 r1, .int .i64 r2, .int .i64 r3, .int .i64 r4, .int .i64 r5, .int .i64 rd], .int .i64 re]) (by simp [results, Tryd.results160, c0, c1, c2, c3, c4, c5, c6, go_sem]) rfl ⟨rfl, hB⟩
  · have hEb : (E != 0) = true := by simp [hE0]
    have hWE : RW = (Rt.zero, E) := by
      have h := HW.out
      have h2 := HEE.out
      by_cases h0 : ex = 0
      · rw [if_pos h0] at h h2
        subst h2
        rw [if_neg hE0] at h
        exact h
      · rw [if_neg h0] at h h2
        subst h2
        exact h
    have HWE := Lib.hid hWE
    obtain ⟨c0, c1, c2, c3, c4, c5, c6⟩ := HR3.out.r7
    simp only [Nat.zero_add] at c0 c1 c2 c3 c4 c5 c6
    have f0 := HR3.out.frozen 0
    have f1 := HR3.out.frozen 1
    have f2 := HR3.out.frozen 2
    have f3 := HR3.out.frozen 3
    have f4 := HR3.out.frozen 4
    have f5 := HR3.out.frozen 5
    have f6 := HR3.out.frozen 6
    clear hWE HW hE0 hcx hcy
    go_wp2
    change bodyPost _ _ _ _ _ (putR w1 (w.heap.size + 1 + 1) 0 0 0 0 0 0 0)
    clear c0 c1 c2 c3 c4 c5 c6
    obtain ⟨c0, c1, c2, c3, c4, c5, c6⟩ := (putR_row HR3.out 0 0 0 0 0 0 0).r7
    have hB := putR_below HB.out (show w.heap.size ≤ w.heap.size + 1 + 1 by omega) 0 0 0 0 0 0 0
    generalize putR w1 (w.heap.size + 1 + 1) 0 0 0 0 0 0 0 = W' at *
    simp only [Nat.zero_add] at c0 c1 c2 c3 c4 c5 c6
    refine bodyPost_ret (v := .tuple #[.agg #[.int .i64 0, .int .i64 0, .int .i64 0, .int .i64 0, .int .i64 0, .int .i64 0, .int .i64 0], .int .i64 E]) (by simp [results, Tryd.results160, c0, c1, c2, c3, c4, c5, c6, go_sem]) rfl ⟨?_, hB⟩
    rw [HWE.out]
    rfl
end Go.Proofs.YtmbcejldifobnaaDoor

namespace Go.Proofs.YtmbcejldifobnaaDoor
open Go.RowKit
def FlW (v : V6) (s d m : Int) (b : Bool) (er : Int) : Prop :=
  (er = 0 ∧ FlIs v s d m ∧ b = (Fl v s d m == 0) ∧ -1000000000000 ≤ m ∧ m ≤ 1000000000000) ∨ (er = 7 ∧ m = 0 ∧ b = false ∧ (Fl v s d (-1000000000000) < 0 ∨ 0 ≤ Fl v s d 1000000000001))
theorem zl_mem {v : V6} {x : Nat × Int} (h : x ∈ nz v.zl) : (2 ≤ x.1 ∧ x.1 ≤ 13) ∧ x.2 ∈ v.l := by
  have h1 := (List.mem_filter.1 h).1
  have h2 := List.of_mem_zip h1
  refine ⟨?_, h2.2⟩
  have h3 := h2.1
  simp only [ps6, List.mem_cons, List.not_mem_nil, or_false] at h3
  omega
theorem nz_valid {v : V6} (h : ∀ n ∈ v.l, -100000 ≤ n ∧ n ≤ 100000) : validL (nz v.zl) := by
  refine ⟨?_, fun x hx => ?_⟩
  · refine Nat.le_trans (nz_len _) ?_
    unfold V6.zl V6.l ps6
    simp
  · obtain ⟨h1, h2⟩ := zl_mem hx
    have := h _ h2
    omega
theorem zl_sign {v : V6} (h : ∀ n ∈ v.l, -100000 ≤ n ∧ n ≤ 100000) {s d m : Int} (hs1 : 1 ≤ s) (hs2 : s ≤ 1200000) (hd1 : 1 ≤ d) (hd2 : d ≤ 1000) (h1 : -1000000000000 ≤ m) (h2 : m ≤ 1000000000001) : SignOk (scL s (nz v.zl) ++ [(2, -(m * d))]) 36 := by
  have hx : ∀ x ∈ scL s (nz v.zl), 1 ≤ x.1 ∧ x.1 ≤ 13 ∧ x.2.natAbs ≤ 120000000000 := by
    intro x hx
    unfold scL at hx
    obtain ⟨y, hy, rfl⟩ := List.mem_map.1 hx
    obtain ⟨h3, h4⟩ := zl_mem hy
    have h5 := mul_bd (a := y.2) (b := s) (A := 100000) (B := 1200000) (h _ h4) ⟨by omega, hs2⟩ (by omega)
    refine ⟨by simp only; omega, by simp only; omega, ?_⟩
    show (y.2 * s).natAbs ≤ _
    omega
  obtain ⟨s1, s2⟩ := sums_le (N := 13) (e := 120000000000) (w := 3) (by decide) hx
  have hl : (scL s (nz v.zl)).length ≤ 6 := by
    rw [scL_len]
    refine Nat.le_trans (nz_len _) ?_
    unfold V6.zl V6.l ps6
    simp
  have h3 : nA (scL s (nz v.zl)) ≤ 720000000000 := Nat.le_trans s1 (Nat.le_trans (Nat.mul_le_mul_right _ hl) (by decide))
  have h4 : wA (scL s (nz v.zl)) ≤ 2160000000000 := Nat.le_trans s2 (Nat.le_trans (Nat.mul_le_mul_right _ hl) (by decide))
  have h5 := mul_bd (a := m) (b := d) (A := 1000000000001) (B := 1000) ⟨by omega, h2⟩ ⟨by omega, hd2⟩ (by omega)
  have h6 : (-(m * d)).natAbs ≤ 1000000000001000 := by omega
  have e2 : Nat.log2 2 = 1 := by decide
  have hk : (64 : Nat) * 2 ^ 36 - 2 = 4398046511102 := by decide
  refine SignOk.snoc (fun x hx' => ⟨(hx x hx').1, by have := (hx x hx').2.1; omega⟩) (by omega) (by omega) (by omega) ?_ (by omega) (by omega) (by omega)
  rw [e2]; omega
theorem floorV_any (v : Value) (V : V6) (d s : Int) (w : World) (hv : TmC w w.heap.size v (nz V.zl)) (h : ∀ n ∈ V.l, -100000 ≤ n ∧ n ≤ 100000) (hd1 : 1 ≤ d) (hd2 : d ≤ 1000) (hs1 : 1 ≤ s) (hs2 : s ≤ 1200000) :
    Calls Tryd.prog 46 #[v, .int .i64 d, .int .i64 s] w fun e w' => ∃ (m : Int) (b : Bool) (er : Int), e = .returned (.tuple #[.int .i64 m, .bool b, .int .i64 er]) ∧ FlW V s d m b er ∧ Below w.heap.size w w' := by
  refine (Floor_any v (nz V.zl) d s 36 w hv (nz_valid h) hd1 (by omega) hs1 (by omega) (fun m m1 m2 => zl_sign h hs1 hs2 hd1 hd2 m1 m2)).mono ?_
  rintro e w' ⟨hsp, hb⟩
  have hf : ∀ m, sgnP (scL s (nz V.zl) ++ [(2, -(m * d))]) = Fl V s d m := fun m => Fl_of V s d m (by omega)
  unfold SrPost at hsp
  simp only [hf] at hsp
  rcases hsp with ⟨hc, he⟩ | ⟨hc, m, m1, m2, m3, m4, he⟩
  · exact ⟨0, false, 7, he, .inr ⟨rfl, rfl, rfl, hc⟩, hb⟩
  · exact ⟨m, Fl V s d m == 0, 0, he, .inl ⟨rfl, ⟨m3, m4⟩, rfl, m1, m2⟩, hb⟩
theorem cell_bd6 {x0 x1 x2 x3 x4 x5 xd : Int} (h : Rt.Ok ⟨⟨x0, x1, x2, x3, x4, x5⟩, xd⟩) : (∀ n ∈ V6.l ⟨x0, x1, x2, x3, x4, x5⟩, -100000 ≤ n ∧ n ≤ 100000) ∧ 1 ≤ xd ∧ xd ≤ 1000 := h.bds
end Go.Proofs.YtmbcejldifobnaaDoor

namespace Go.Proofs.YtmbcejldifobnaaDoor
theorem two_up {l : List (Nat × Int)} (hp : posN l) {M : Int} (hM : ((wA l + nA l : Nat) : Int) ≤ M) : 0 ≤ sgnP (l ++ [(2, M)]) := by
  rw [sgn_ge, upP_snoc, dnP_snoc, show (-M).toNat = 0 by omega, Nat.pow_zero, Nat.mul_one]
  have h1 := Nat.le_trans (dn_le_all hp) (allP_le hp)
  have h2 : 2 ^ (wA l + nA l) ≤ 2 ^ M.toNat := Nat.pow_le_pow_right (by omega) (by omega)
  exact Nat.le_trans (Nat.le_trans h1 h2) (Nat.le_mul_of_pos_left _ (upP_pos' hp))
theorem two_dn {l : List (Nat × Int)} (hp : posN l) {M : Int} (hM : ((wA l + nA l : Nat) : Int) < -M) : sgnP (l ++ [(2, M)]) < 0 := by
  rw [sgn_lt, upP_snoc, dnP_snoc, show M.toNat = 0 by omega, Nat.pow_zero, Nat.mul_one]
  have h1 := Nat.le_trans (up_le_all hp) (allP_le hp)
  have h2 : 2 ^ (wA l + nA l) < 2 ^ (-M).toNat := Nat.pow_lt_pow_right (by omega) (by omega)
  exact Nat.lt_of_lt_of_le (Nat.lt_of_le_of_lt h1 h2) (Nat.le_mul_of_pos_left _ (dnP_pos' hp))
theorem zl_mem6 {v : V6} {x : Nat × Int} (h : x ∈ v.zl) : (2 ≤ x.1 ∧ x.1 ≤ 13) ∧ x.2 ∈ v.l := by
  have h2 := List.of_mem_zip h
  refine ⟨?_, h2.2⟩
  have h3 := h2.1
  simp only [ps6, List.mem_cons, List.not_mem_nil, or_false] at h3
  omega
theorem sums6 {v : V6} {b : Nat} (h : ∀ n ∈ v.l, n.natAbs ≤ b) : wA v.zl + nA v.zl ≤ 24 * b := by
  obtain ⟨s1, s2⟩ := sums_le (N := 13) (e := b) (w := 3) (by decide) (l := v.zl) fun x hx => by
    obtain ⟨h1, h2⟩ := zl_mem6 hx
    exact ⟨by omega, h1.2, h _ h2⟩
  have hl : v.zl.length = 6 := by unfold V6.zl V6.l ps6; simp
  rw [hl] at s1 s2
  omega
theorem Fl_two (v : V6) (s d m : Int) : Fl v s d m = sgnP ((V6.scl s v).zl ++ [(2, -(m * d))]) := by
  have h := two_eqv (V6.scl s v) (-(m * d))
  unfold Fl Sg
  exact h.sgn (V6.pos _) (posN_append.2 ⟨V6.pos _, fun x hx => by rw [List.mem_singleton] at hx; subst hx; show 1 ≤ 2; omega⟩)
theorem Fl_far {v : V6} {s d : Int} {b : Nat} (h : ∀ n ∈ v.l, n.natAbs ≤ b) (hs : 0 ≤ s) {m : Int} (hm : 24 * (b : Int) * s < m * d) : 0 ≤ Fl v s d (-m) ∧ Fl v s d m < 0 := by
  have h1 := sums6 (v := V6.scl s v) (b := s.natAbs * b) (by
    intro n hn
    rw [V6.scl_l] at hn
    obtain ⟨x, hx, rfl⟩ := List.mem_map.1 hn
    rw [Int.natAbs_mul]
    exact Nat.mul_le_mul_left _ (h x hx))
  have h2 : ((wA (V6.scl s v).zl + nA (V6.scl s v).zl : Nat) : Int) ≤ 24 * (b : Int) * s := by
    have e : 24 * (b : Int) * s = ((24 * (s.natAbs * b) : Nat) : Int) := by
      rw [Int.natCast_mul, Int.natCast_mul, show ((s.natAbs : Nat) : Int) = s by omega]
      rw [show ((24 : Nat) : Int) = 24 from rfl]
      rw [Int.mul_assoc, Int.mul_comm (b : Int) s]
    rw [e]; omega
  constructor
  · rw [Fl_two]
    refine two_up (V6.pos _) ?_
    rw [Int.neg_mul, Int.neg_neg]; omega
  · rw [Fl_two]
    refine two_dn (V6.pos _) ?_
    omega
end Go.Proofs.YtmbcejldifobnaaDoor

namespace Go.Proofs.YtmbcejldifobnaaDoor
open Go.RowKit
/-- What Fold returns. -/
def foR (x : Rt) (k : Int) : Rt := ⟨x.v.two (-(k * x.d)), x.d⟩
def FdPost (w : World) (x : Rt) (e : Ending) (w' : World) : Prop :=
  (x.err = 0 ∧ ∃ k : Int, FlIs x.v 1 x.d k ∧ -3000000 ≤ k ∧ k ≤ 3000000 ∧ Below w.heap.size w w' ∧
    (((foR x k).fits = true ∧ e = .returned (.tuple #[rtv (foR x k), .int .i64 k, .int .i64 0])) ∨ ((foR x k).fits = false ∧ e = .returned (.tuple #[rtv Rt.zero, .int .i64 0, .int .i64 7])))) ∨
  (x.err ≠ 0 ∧ e = .returned (.tuple #[rtv Rt.zero, .int .i64 0, .int .i64 x.err]) ∧ Below w.heap.size w w')
theorem fold_one {v : V6} {d m : Int} {b : Bool} {er : Int} (h : ∀ n ∈ v.l, -100000 ≤ n ∧ n ≤ 100000) (hd : 1 ≤ d) (hw : FlW v 1 d m b er) : er = 0 ∧ FlIs v 1 d m ∧ -3000000 ≤ m ∧ m ≤ 3000000 := by
  have hb : ∀ n ∈ v.l, n.natAbs ≤ 100000 := fun n hn => by have := h n hn; omega
  have hfar : ∀ M : Int, 2400001 ≤ M → 0 ≤ Fl v 1 d (-M) ∧ Fl v 1 d M < 0 := fun M hM => by
    refine Fl_far (b := 100000) hb (by omega) ?_
    have := Int.mul_le_mul_of_nonneg_left hd (show 0 ≤ M by omega)
    omega
  rcases hw with ⟨h1, h2, -, h4, h5⟩ | ⟨-, -, -, h3⟩
  · refine ⟨h1, h2, ?_, ?_⟩
    · have := h2.le (by omega) (hfar 3000000 (by omega)).1; omega
    · rcases Int.lt_or_le 3000000 m with h6 | h6
      · have := Fl_anti (by omega) (Int.le_of_lt h6) h2.1
        have := (hfar 3000000 (by omega)).2
        omega
      · exact h6
  · exfalso
    rcases h3 with h3 | h3
    · have := (hfar 1000000000000 (by omega)).1; omega
    · have := (hfar 1000000000001 (by omega)).2; omega
set_option maxRecDepth 100000 in
set_option maxHeartbeats 1000000 in
theorem Fold_any (x0 x1 x2 x3 x4 x5 xd : Int) (w : World) (hp : PrL w) :
    Calls Tryd.prog 11 #[.agg #[.int .i64 x0, .int .i64 x1, .int .i64 x2, .int .i64 x3, .int .i64 x4, .int .i64 x5, .int .i64 xd]] w (FdPost w ⟨⟨x0, x1, x2, x3, x4, x5⟩, xd⟩) := by
  have hE := exR_one ⟨⟨x0, x1, x2, x3, x4, x5⟩, xd⟩
  have hokx := fun h => (Rt.ok_iff (r := ⟨⟨x0, x1, x2, x3, x4, x5⟩, xd⟩)).1 h
  have hex := fun (W : World) (g : Nat) (h : W.heap[g]? = some (.cells (cellsR ⟨⟨x0, x1, x2, x3, x4, x5⟩, xd⟩).toArray 24 (0, 0))) => examineR_any g [⟨⟨x0, x1, x2, x3, x4, x5⟩, xd⟩] W (Array.getElem?_eq_some_iff.1 h).1 (cell_one1 h) (by simp)
  rw [hE] at hex
  have HEX := Lib.hid hex
  have HOX := Lib.hid hokx
  have HP := Lib.hid hp
  clear hex hE hokx hp
  have hCt : ∀ e w', FdPost w ⟨⟨x0, x1, x2, x3, x4, x5⟩, xd⟩ e w' = ((Rt.err ⟨⟨x0, x1, x2, x3, x4, x5⟩, xd⟩ = 0 ∧ ∃ k : Int, FlIs ⟨x0, x1, x2, x3, x4, x5⟩ 1 xd k ∧ -3000000 ≤ k ∧ k ≤ 3000000 ∧ Below w.heap.size w w' ∧ (((foR ⟨⟨x0, x1, x2, x3, x4, x5⟩, xd⟩ k).fits = true ∧ e = .returned (.tuple #[rtv (foR ⟨⟨x0, x1, x2, x3, x4, x5⟩, xd⟩ k), .int .i64 k, .int .i64 0])) ∨ ((foR ⟨⟨x0, x1, x2, x3, x4, x5⟩, xd⟩ k).fits = false ∧ e = .returned (.tuple #[rtv Rt.zero, .int .i64 0, .int .i64 7])))) ∨ (Rt.err ⟨⟨x0, x1, x2, x3, x4, x5⟩, xd⟩ ≠ 0 ∧ e = .returned (.tuple #[rtv Rt.zero, .int .i64 0, .int .i64 (Rt.err ⟨⟨x0, x1, x2, x3, x4, x5⟩, xd⟩)]) ∧ Below w.heap.size w w')) := fun _ _ => rfl
  have HCT := Lib.hid hCt
  clear hCt
  generalize FdPost w ⟨⟨x0, x1, x2, x3, x4, x5⟩, xd⟩ = Post at *
  generalize hee : Rt.err ⟨⟨x0, x1, x2, x3, x4, x5⟩, xd⟩ = E at *
  clear hee
  go_enter Tryd.func11, Tryd.ntmps11
  have hr2 : RowI ((w.alloc (.cells #[.int .i64 x0, .int .i64 x1, .int .i64 x2, .int .i64 x3, .int .i64 x4, .int .i64 x5, .int .i64 xd] 24)).alloc (.cells #[.int .i64 0, .int .i64 0, .int .i64 0, .int .i64 0, .int .i64 0, .int .i64 0, .int .i64 0] 24)) (w.heap.size + 1) 24 [0, 0, 0, 0, 0, 0, 0] := by
    have h := RowI.of_alloc (w.alloc (.cells #[.int .i64 x0, .int .i64 x1, .int .i64 x2, .int .i64 x3, .int .i64 x4, .int .i64 x5, .int .i64 xd] 24)) 24 [0, 0, 0, 0, 0, 0, 0]
    rw [World.size_alloc] at h
    exact h
  have hr1 : RowI ((w.alloc (.cells #[.int .i64 x0, .int .i64 x1, .int .i64 x2, .int .i64 x3, .int .i64 x4, .int .i64 x5, .int .i64 xd] 24)).alloc (.cells #[.int .i64 0, .int .i64 0, .int .i64 0, .int .i64 0, .int .i64 0, .int .i64 0, .int .i64 0] 24)) w.heap.size 24 [x0, x1, x2, x3, x4, x5, xd] := (RowI.of_alloc w 24 [x0, x1, x2, x3, x4, x5, xd]).alloc _
  have hb0 := (belA w (.cells #[.int .i64 x0, .int .i64 x1, .int .i64 x2, .int .i64 x3, .int .i64 x4, .int .i64 x5, .int .i64 xd] 24)).alloc (by simp) (.cells #[.int .i64 0, .int .i64 0, .int .i64 0, .int .i64 0, .int .i64 0, .int .i64 0, .int .i64 0] 24)
  have HR1 := Lib.hid hr1
  have HR2 := Lib.hid hr2
  have HB0 := Lib.hid hb0
  clear hr1 hr2 hb0
  go_wp2_with fail
  refine (HEX.out _ _ (by have h := heap_alloc_new ((w.alloc (.cells #[.int .i64 x0, .int .i64 x1, .int .i64 x2, .int .i64 x3, .int .i64 x4, .int .i64 x5, .int .i64 xd] 24)).alloc (.cells #[.int .i64 0, .int .i64 0, .int .i64 0, .int .i64 0, .int .i64 0, .int .i64 0, .int .i64 0] 24)) (.cells (cellsR ⟨⟨x0, x1, x2, x3, x4, x5⟩, xd⟩).toArray 24); rw [World.size_alloc, World.size_alloc] at h; exact h)).mono ?_
  rintro e w1 ⟨he, hb1⟩
  subst he
  have hb1' := (belA ((w.alloc (.cells #[.int .i64 x0, .int .i64 x1, .int .i64 x2, .int .i64 x3, .int .i64 x4, .int .i64 x5, .int .i64 xd] 24)).alloc (.cells #[.int .i64 0, .int .i64 0, .int .i64 0, .int .i64 0, .int .i64 0, .int .i64 0, .int .i64 0] 24)) _).trans (hb1.mono (by simp))
  have hr1 := HR1.out.up hb1'
  have hr2 := HR2.out.up hb1'
  have hb := HB0.out.trans (hb1'.mono (by simp; omega))
  clear HR1 HR2 HB0 hb1 hb1' HEX
  have HR1 := Lib.hid hr1
  have HR2 := Lib.hid hr2
  have HB := Lib.hid hb
  have hz := hb.size
  clear hr1 hr2 hb
  by_cases hE0 : E = 0
  · subst hE0
    have okx := HOX.out rfl
    obtain ⟨hbd, hd1, hd2⟩ := cell_bd6 okx
    obtain ⟨bx0, -⟩ := okx.nums
    simp only at bx0
    have HBD := Lib.hid hbd
    clear okx hbd
    have hpo : ∀ W, Below w1.heap.size w1 W → Calls Tryd.prog 42 #[.agg #[.int .i64 x0, .int .i64 x1, .int .i64 x2, .int .i64 x3, .int .i64 x4, .int .i64 x5]] W fun e w' => ∃ v, e = .returned v ∧ TmC w' w'.heap.size v (nz (V6.zl ⟨x0, x1, x2, x3, x4, x5⟩)) ∧ Below w1.heap.size w1 w' := fun W hW => by
      refine (powersOf_any x0 x1 x2 x3 x4 x5 W (HP.out.below (HB.out.trans (hW.mono hz)))).mono ?_
      rintro e w' ⟨v, he, hr, hb⟩
      exact ⟨v, he, hr.tmc, hW.trans (hb.mono hW.size)⟩
    have hfl : ∀ (v : Value) (W : World), TmC W W.heap.size v (nz (V6.zl ⟨x0, x1, x2, x3, x4, x5⟩)) → Below w1.heap.size w1 W → Calls Tryd.prog 46 #[v, .int .i64 xd, .int .i64 1] W fun e w' => ∃ (m : Int) (b : Bool), e = .returned (.tuple #[.int .i64 m, .bool b, .int .i64 0]) ∧ (FlIs ⟨x0, x1, x2, x3, x4, x5⟩ 1 xd m ∧ -3000000 ≤ m ∧ m ≤ 3000000) ∧ Below w1.heap.size w1 w' := fun v W hv hW => by
      refine (floorV_any v ⟨x0, x1, x2, x3, x4, x5⟩ xd 1 W hv HBD.out hd1 hd2 (by omega) (by omega)).mono ?_
      rintro e w' ⟨m, b, er, he, hf, hb⟩
      obtain ⟨h0, hf2⟩ := fold_one HBD.out hd1 hf
      subst h0
      exact ⟨m, b, he, hf2, hW.trans (hb.mono hW.size)⟩
    have HPO := Lib.hid hpo
    have HFL := Lib.hid hfl
    clear hpo hfl
    obtain ⟨c0, c1, c2, c3, c4, c5, c6⟩ := HR1.out.r7
    simp only [Nat.zero_add] at c0 c1 c2 c3 c4 c5 c6
    go_wp2
    go_region_held3 (fun w' => w'.cell? ⟨w.heap.size, 0, none⟩ = some (.int .i64 x0) ∧ w'.cell? ⟨w.heap.size, 1, none⟩ = some (.int .i64 x1) ∧ w'.cell? ⟨w.heap.size, 2, none⟩ = some (.int .i64 x2) ∧ w'.cell? ⟨w.heap.size, 3, none⟩ = some (.int .i64 x3) ∧ w'.cell? ⟨w.heap.size, 4, none⟩ = some (.int .i64 x4) ∧ w'.cell? ⟨w.heap.size, 5, none⟩ = some (.int .i64 x5) ∧ w'.cell? ⟨w.heap.size, 6, none⟩ = some (.int .i64 xd))
      (first | (refine ⟨?_, ?_, ?_, ?_, ?_, ?_, ?_⟩ <;> with_reducible assumption) | go_keep)
      (first
        | (go_at_call 42; refine Calls.mono (HPO.out _ ((Below.refl _ w1).drew)) ?_; clear HPO; rintro e w2 ⟨v, he, htm, hb2⟩; subst he; have HF2 := Lib.hid (HFL.out v w2 htm hb2); clear HFL; clear c0 c1 c2 c3 c4 c5 c6; obtain ⟨c0, c1, c2, c3, c4, c5, c6⟩ := (HR1.out.up hb2).r7; simp only [Nat.zero_add] at c0 c1 c2 c3 c4 c5 c6; clear hb2)
        | (go_at_call 46; refine Calls.mono HF2.out ?_; rintro e w3 ⟨m, b, he, ⟨hfw, hm1, hm2⟩, hb3⟩; subst he; have HFW := Lib.hid hfw; have HB3 := Lib.hid hb3; clear hfw; clear c0 c1 c2 c3 c4 c5 c6; obtain ⟨c0, c1, c2, c3, c4, c5, c6⟩ := (HR1.out.up hb3).r7; simp only [Nat.zero_add] at c0 c1 c2 c3 c4 c5 c6; clear hb3))
    have hr1 := HR1.out.up HB3.out
    have hr2 := HR2.out.up HB3.out
    have hb := HB.out.trans (HB3.out.mono hz)
    have hz3 := hb.size
    have fb0 := hr1.frozen 0
    clear HR1 HR2 HB HB3 HF2
    have p1 := mul_bd (a := m) (b := xd) (A := 3000000) (B := 1000) ⟨hm1, hm2⟩ ⟨by omega, hd2⟩ (by omega)
    obtain ⟨P, hP⟩ : ∃ P, m * xd = P := ⟨_, rfl⟩
    rw [hP] at p1
    have e1 : IntKind.i64.wrap P = P := IntWalk.i64_in _ (by omega)
    obtain ⟨Q, hQ⟩ : ∃ Q, x0 - P = Q := ⟨_, rfl⟩
    have e2 : IntKind.i64.wrap Q = Q := IntWalk.i64_in _ (by omega)
    have hr1' := hr1.set 0 Q
    have hr2' := hr2.other (k := w.heap.size) (i := 0) (.int .i64 Q) (by omega)
    have hb' : Below w.heap.size w (w3.setCell ⟨w.heap.size, 0, none⟩ (.int .i64 Q)) := hb.setCell (Nat.le_refl _) _
    have HR1 := Lib.hid hr1'
    have HR2 := Lib.hid hr2'
    have HB := Lib.hid hb'
    have hfo : foR ⟨⟨x0, x1, x2, x3, x4, x5⟩, xd⟩ m = ⟨⟨Q, x1, x2, x3, x4, x5⟩, xd⟩ := by
      unfold foR V6.two
      simp only
      rw [← hQ, ← hP, Int.sub_eq_add_neg]
    have HFO := Lib.hid hfo
    have hft := fun W => fits_any Q x1 x2 x3 x4 x5 xd W
    have HFT := Lib.hid hft
    clear hr1 hr2 hb hr1' hr2' hb' hfo hft
    obtain ⟨n0, n1, n2, n3, n4, n5, n6⟩ := HR1.out.r7
    simp only [Nat.zero_add] at n0 n1 n2 n3 n4 n5 n6
    go_wp2_with fail
    refine (HFT.out _).mono ?_
    rintro e w4 ⟨he, hb4⟩
    subst he
    have hr1 := HR1.out.up hb4
    have hr2 := HR2.out.up hb4
    have hb := HB.out.trans (hb4.mono (by rw [size_setCell']; exact hz3))
    clear HR1 HR2 HB hb4 HFT n0 n1 n2 n3 n4 n5 n6 c0 c1 c2 c3 c4 c5 c6
    obtain ⟨n0, n1, n2, n3, n4, n5, n6⟩ := hr1.r7
    obtain ⟨c0, c1, c2, c3, c4, c5, c6⟩ := hr2.r7
    simp only [Nat.zero_add] at n0 n1 n2 n3 n4 n5 n6 c0 c1 c2 c3 c4 c5 c6
    have f0 := hr2.frozen 0
    have f1 := hr2.frozen 1
    have f2 := hr2.frozen 2
    have f3 := hr2.frozen 3
    have f4 := hr2.frozen 4
    have f5 := hr2.frozen 5
    have f6 := hr2.frozen 6
    have HR2 := Lib.hid hr2
    have HB := Lib.hid hb
    clear hr1 hr2 hb
    by_cases hf : Rt.fits ⟨⟨Q, x1, x2, x3, x4, x5⟩, xd⟩ = true
    · rw [hf]
      have HF := Lib.hid hf
      clear hf
      go_wp2
      change bodyPost _ _ _ _ _ (putR w4 (w.heap.size + 1) Q x1 x2 x3 x4 x5 xd)
      clear c0 c1 c2 c3 c4 c5 c6
      obtain ⟨c0, c1, c2, c3, c4, c5, c6⟩ := (putR_row HR2.out Q x1 x2 x3 x4 x5 xd).r7
      have hB := putR_below HB.out (show w.heap.size ≤ w.heap.size + 1 by omega) Q x1 x2 x3 x4 x5 xd
      generalize putR w4 (w.heap.size + 1) Q x1 x2 x3 x4 x5 xd = W' at *
      simp only [Nat.zero_add] at c0 c1 c2 c3 c4 c5 c6
      refine bodyPost_ret (v := .tuple #[.agg #[.int .i64 Q, .int .i64 x1, .int .i64 x2, .int .i64 x3, .int .i64 x4, .int .i64 x5, .int .i64 xd], .int .i64 m, .int .i64 0]) (by simp [results, Tryd.results11, c0, c1, c2, c3, c4, c5, c6, go_sem]) rfl ?_
      rw [HCT.out]
      exact .inl ⟨trivial, m, HFW.out, hm1, hm2, hB, .inl ⟨by rw [HFO.out]; exact HF.out, by rw [HFO.out]; rfl⟩⟩
    · have hf : Rt.fits ⟨⟨Q, x1, x2, x3, x4, x5⟩, xd⟩ = false := by simpa using hf
      rw [hf]
      have HF := Lib.hid hf
      clear hf
      go_wp2
      change bodyPost _ _ _ _ _ (putR w4 (w.heap.size + 1) 0 0 0 0 0 0 0)
      clear c0 c1 c2 c3 c4 c5 c6
      obtain ⟨c0, c1, c2, c3, c4, c5, c6⟩ := (putR_row HR2.out 0 0 0 0 0 0 0).r7
      have hB := putR_below HB.out (show w.heap.size ≤ w.heap.size + 1 by omega) 0 0 0 0 0 0 0
      generalize putR w4 (w.heap.size + 1) 0 0 0 0 0 0 0 = W' at *
      simp only [Nat.zero_add] at c0 c1 c2 c3 c4 c5 c6
      refine bodyPost_ret (v := .tuple #[.agg #[.int .i64 0, .int .i64 0, .int .i64 0, .int .i64 0, .int .i64 0, .int .i64 0, .int .i64 0], .int .i64 0, .int .i64 7]) (by simp [results, Tryd.results11, c0, c1, c2, c3, c4, c5, c6, go_sem]) rfl ?_
      rw [HCT.out]
      exact .inl ⟨trivial, m, HFW.out, hm1, hm2, hB, .inr ⟨by rw [HFO.out]; exact HF.out, rfl⟩⟩
  · have hEb : (E != 0) = true := by simp [hE0]
    have HE0 := Lib.hid hE0
    clear hE0
    obtain ⟨c0, c1, c2, c3, c4, c5, c6⟩ := HR2.out.r7
    simp only [Nat.zero_add] at c0 c1 c2 c3 c4 c5 c6
    have f0 := HR2.out.frozen 0
    have f1 := HR2.out.frozen 1
    have f2 := HR2.out.frozen 2
    have f3 := HR2.out.frozen 3
    have f4 := HR2.out.frozen 4
    have f5 := HR2.out.frozen 5
    have f6 := HR2.out.frozen 6
    go_wp2
    change bodyPost _ _ _ _ _ (putR w1 (w.heap.size + 1) 0 0 0 0 0 0 0)
    clear c0 c1 c2 c3 c4 c5 c6
    obtain ⟨c0, c1, c2, c3, c4, c5, c6⟩ := (putR_row HR2.out 0 0 0 0 0 0 0).r7
    have hB := putR_below HB.out (show w.heap.size ≤ w.heap.size + 1 by omega) 0 0 0 0 0 0 0
    generalize putR w1 (w.heap.size + 1) 0 0 0 0 0 0 0 = W' at *
    simp only [Nat.zero_add] at c0 c1 c2 c3 c4 c5 c6
    refine bodyPost_ret (v := .tuple #[.agg #[.int .i64 0, .int .i64 0, .int .i64 0, .int .i64 0, .int .i64 0, .int .i64 0, .int .i64 0], .int .i64 0, .int .i64 E]) (by simp [results, Tryd.results11, c0, c1, c2, c3, c4, c5, c6, go_sem]) rfl ?_
    rw [HCT.out]
    exact .inr ⟨HE0.out, rfl, hB⟩
end Go.Proofs.YtmbcejldifobnaaDoor

namespace Go.Proofs.YtmbcejldifobnaaDoor
open Go.RowKit
def RgRel (w : World) (G M : Nat) (va vb : Value) (wr : World) : Prop := ∃ x y : Nat, va = .int .i64 (x : Int) ∧ vb = .int .i64 (y : Int) ∧ x ≤ M ∧ y ≤ M ∧ Nat.gcd x y = G ∧ Drawn w wr
set_option maxHeartbeats 1000000 in
theorem rgcd_any (a b : Nat) (w : World) (h1 : a ≤ 9000000000000000000) (h2 : b ≤ 9000000000000000000) :
    Calls Tryd.prog 91 #[.int .i64 (a : Int), .int .i64 (b : Int)] w fun e w' => e = .returned (.int .i64 ((Nat.gcd a b : Nat) : Int)) ∧ Drawn w w' := by
  obtain ⟨G, hG⟩ : ∃ G, G = Nat.gcd a b := ⟨_, rfl⟩
  rw [← hG]
  have HG := Lib.hid hG.symm
  clear hG
  go_enter Tryd.func91, Tryd.ntmps91
  go_wp2
  go_loopw [0, 1] (fun va vb wr => RgRel w G 9000000000000000000 va vb wr) (fun _ vb _ => mAbs vb)
  case atStart => exact ⟨a, b, rfl, rfl, h1, h2, HG.out, Drawn.refl w⟩
  case round =>
    obtain ⟨x, y, rfl, rfl, x1, y1, hg, hdr⟩ := hrel
    have HH := Lib.hid hg
    have HDR := Lib.hid hdr
    clear hg hdr
    by_cases hy : y = 0
    · subst hy
      have hxG : x = G := by have h := HH.out; rw [Nat.gcd_zero_right] at h; exact h
      have HX := Lib.hid hxG
      clear hxG
      go_wp2
      go_ret
      exact ⟨ret_int (by rw [HX.out]), HDR.out⟩
    · have q0 : ¬ (y : Int) = 0 := by omega
      have q1 : ((y : Int) == 0) = false := beq_false_of_ne q0
      have q2 : ((y : Int) != 0) = true := by simp [hy]
      obtain ⟨r, hr⟩ : ∃ r, r = x % y := ⟨_, rfl⟩
      have hrI : (x : Int) % (y : Int) = (r : Int) := by rw [hr]; exact (Int.natCast_emod x y).symm
      have hst : Nat.gcd y r = G := by rw [← HH.out, hr, Nat.gcd_comm x y, Nat.gcd_rec y x, Nat.gcd_comm]
      have hlt : r < y := by rw [hr]; exact Nat.mod_lt _ (by omega)
      have HST := Lib.hid hst
      clear hst hr
      go_wp2
      go_quiet (fail)
      go_wp2
      first
        | exact ⟨⟨y, r, rfl, by rw [hrI], y1, by omega, HST.out, HDR.out.trans ⟨_, rfl⟩⟩, by rw [hrI]; simp [mAbs]; omega⟩
        | (go_roundw
           case rel => exact ⟨y, r, rfl, by rw [hrI], y1, by omega, HST.out, HDR.out.trans ⟨_, rfl⟩⟩
           case measure => simp [mAbs]; omega)
def RcRel (w : World) (l : List Int) (d : Int) (gv iv : Value) (wr : World) : Prop := ∃ (i g : Nat), i ≤ 6 ∧ iv = .int .i64 (i : Int) ∧ gv = .int .i64 (g : Int) ∧ g ≤ 100000 ∧ (∀ n ∈ l.take i, fitB n = true) ∧ gl (l.drop i) g = gl l d.natAbs ∧ Drawn w wr
theorem drop_at {l : List Int} {i : Nat} {n : Int} (h : l[i]? = some n) : l.drop i = n :: l.drop (i + 1) := by
  have hi := (List.getElem?_eq_some_iff.1 h).1
  rw [List.drop_eq_getElem_cons hi]
  congr 1
  rw [List.getElem?_eq_getElem hi] at h
  exact Option.some.inj h
set_option maxRecDepth 100000 in
set_option maxHeartbeats 2000000 in
theorem rCheck_any (x0 x1 x2 x3 x4 x5 xd : Int) (w : World) : Calls Tryd.prog 43 #[.agg #[.int .i64 x0, .int .i64 x1, .int .i64 x2, .int .i64 x3, .int .i64 x4, .int .i64 x5, .int .i64 xd]] w fun e w' => e = .returned (.int .i64 (Rt.err ⟨⟨x0, x1, x2, x3, x4, x5⟩, xd⟩)) ∧ Below w.heap.size w w' := by
  have herr : Rt.err ⟨⟨x0, x1, x2, x3, x4, x5⟩, xd⟩ = if (([x0, x1, x2, x3, x4, x5].all fitB) && wiB xd 1 1000) = true then (if gl [x0, x1, x2, x3, x4, x5] xd.natAbs = 1 then 0 else 6) else 2 := by
    unfold Rt.err
    rw [fits_list]
    rfl
  have HE := Lib.hid herr
  clear herr
  generalize Rt.err ⟨⟨x0, x1, x2, x3, x4, x5⟩, xd⟩ = E at *
  have HB := Lib.hid (belA w (.cells #[.int .i64 x0, .int .i64 x1, .int .i64 x2, .int .i64 x3, .int .i64 x4, .int .i64 x5, .int .i64 xd] 24))
  have HR := Lib.hid (RowI.of_alloc w 24 [x0, x1, x2, x3, x4, x5, xd])
  by_cases hd : 1 ≤ xd ∧ xd ≤ 1000
  case neg =>
    have hE : E = 2 := by
      rw [HE.out, if_neg]
      intro h
      rw [Bool.and_eq_true] at h
      have h2 := h.2
      unfold wiB at h2
      simp only [Bool.and_eq_true, decide_eq_true_eq] at h2
      exact hd h2
    subst hE
    clear HE HR
    by_cases h1 : xd < 1
    · go_enter Tryd.func43, Tryd.ntmps43
      go_wp2
      go_ret
      exact ⟨rfl, HB.out⟩
    · have h2 : 1000 < xd := by omega
      clear hd
      go_enter Tryd.func43, Tryd.ntmps43
      go_wp2
      go_ret
      exact ⟨rfl, HB.out⟩
  obtain ⟨hd1, hd2⟩ := hd
  obtain ⟨dn, rfl⟩ := Int.eq_ofNat_of_zero_le (show 0 ≤ xd by omega)
  rw [Int.natAbs_natCast] at HE
  have hwd : wiB (dn : Int) 1 1000 = true := by unfold wiB; rw [decide_eq_true hd1, decide_eq_true hd2]; rfl
  rw [hwd, Bool.and_true] at HE
  clear hwd
  go_enter Tryd.func43, Tryd.ntmps43
  go_wp2
  have hr0 : RowI (w.alloc (.cells #[.int .i64 x0, .int .i64 x1, .int .i64 x2, .int .i64 x3, .int .i64 x4, .int .i64 x5, .int .i64 (dn : Int)] 24)) w.heap.size 24 [x0, x1, x2, x3, x4, x5, (dn : Int)] := HR.out
  have hb0 : Below w.heap.size w (w.alloc (.cells #[.int .i64 x0, .int .i64 x1, .int .i64 x2, .int .i64 x3, .int .i64 x4, .int .i64 x5, .int .i64 (dn : Int)] 24)) := HB.out
  clear HR HB
  generalize w.alloc (.cells #[.int .i64 x0, .int .i64 x1, .int .i64 x2, .int .i64 x3, .int .i64 x4, .int .i64 x5, .int .i64 (dn : Int)] 24) = W0 at *
  have HR := Lib.hid hr0
  have HB := Lib.hid hb0
  clear hr0 hb0
  go_loopw [3, 4] (fun gv iv wr => RcRel W0 [x0, x1, x2, x3, x4, x5] (dn : Int) gv iv wr) (fun _ iv _ => 6 - (intOf iv).toNat)
  case atStart => exact ⟨0, dn, Nat.zero_le _, rfl, rfl, by omega, fun n h => (by cases h), by rw [Int.natAbs_natCast]; rfl, Drawn.refl _⟩
  case round =>
    obtain ⟨i, g, hi, rfl, rfl, hg, hok, hgl, hdr⟩ := hrel
    have HOK := Lib.hid hok
    have HGL := Lib.hid hgl
    have HDR := Lib.hid hdr
    have hrw := HR.out.up hdr.below
    have HRW := Lib.hid hrw
    clear hok hgl hdr hrw
    by_cases hil : i < 6
    · obtain ⟨n, hn⟩ : ∃ n, [x0, x1, x2, x3, x4, x5][i]? = some n := ⟨[x0, x1, x2, x3, x4, x5][i], List.getElem?_eq_getElem _⟩
      have hilI : (i : Int) < 6 := by omega
      have hiI : (0 : Int) ≤ (i : Int) := by omega
      have k0 := HRW.out.cell (at7 (d := (dn : Int)) hn)
      have HDA := Lib.hid (drop_at hn)
      have HN := Lib.hid hn
      clear hn
      have hbad : fitB n = false → E = 2 := fun hf => by
        rw [HE.out, if_neg]
        intro h
        have := List.all_eq_true.1 h n (List.mem_of_getElem? HN.out)
        rw [hf] at this
        cases this
      have HBAD := Lib.hid hbad
      clear hbad
      by_cases h1 : n < -100000
      · have hE := HBAD.out (by unfold fitB; rw [decide_eq_false (by omega)]; rfl)
        subst hE
        go_wp2
        go_ret
        exact ⟨rfl, HB.out.trans (HDR.out.below.mono HB.out.size)⟩
      by_cases h2 : 100000 < n
      · have hE := HBAD.out (by unfold fitB; rw [decide_eq_false (show ¬ n ≤ 100000 by omega), Bool.and_false])
        subst hE
        go_wp2
        go_ret
        exact ⟨rfl, HB.out.trans (HDR.out.below.mono HB.out.size)⟩
      have hfit : fitB n = true := fitB_iff.2 ⟨by omega, by omega⟩
      obtain ⟨a, ha⟩ : ∃ a : Nat, (a : Int) = max n (-n) := ⟨n.natAbs, by omega⟩
      have ha2 : max n (-n) = (a : Int) := ha.symm
      have hab : a = n.natAbs := by omega
      have hal : a ≤ 100000 := by omega
      have hgc := fun W => rgcd_any g a W (by omega) (by omega)
      have hgb : Nat.gcd g a ≤ 100000 := by
        rcases Nat.eq_zero_or_pos g with h0 | h0
        · subst h0; rw [Nat.gcd_zero_left]; exact hal
        · exact Nat.le_trans (Nat.gcd_le_left _ h0) hg
      obtain ⟨q, hq⟩ : ∃ q, q = Nat.gcd g a := ⟨_, rfl⟩
      rw [← hq] at hgc hgb
      have HQ := Lib.hid hq
      have HGC := Lib.hid hgc
      have HFIT := Lib.hid hfit
      have HAB := Lib.hid hab
      clear hgc hfit hq hab ha
      go_wp2
      go_quiet ((go_at_call 91; exact Calls.quiet_of (HGC.out _)))
      go_wp2
      refine ⟨⟨i + 1, q, by omega, by go_num, rfl, hgb, ?_, ?_, HDR.out.trans ⟨_, rfl⟩⟩, by simp [intOf]; omega⟩
      · intro y hy
        rw [List.take_add_one, HN.out, List.mem_append] at hy
        rcases hy with h | h
        · exact HOK.out y h
        · simp at h; subst h; exact HFIT.out
      · rw [← HGL.out, HDA.out, HQ.out, HAB.out]
        rfl
    · obtain rfl : i = 6 := by omega
      have hall : [x0, x1, x2, x3, x4, x5].all fitB = true := List.all_eq_true.2 fun y hy => HOK.out y (by simpa using hy)
      have hg1 : g = gl [x0, x1, x2, x3, x4, x5] dn := by
        have h := HGL.out
        rw [Int.natAbs_natCast] at h
        exact h
      have hE := HE.out
      rw [if_pos hall, ← hg1] at hE
      have HE2 := Lib.hid hE
      clear hE HE hall hg1
      by_cases h1 : g = 1
      · subst h1
        have hE := HE2.out
        rw [if_pos rfl] at hE
        subst hE
        go_wp2
        go_ret
        exact ⟨rfl, HB.out.trans (HDR.out.below.mono HB.out.size)⟩
      · have hE := HE2.out
        rw [if_neg h1] at hE
        subst hE
        have h1I : ¬ (g : Int) = 1 := by omega
        go_wp2
        go_ret
        exact ⟨rfl, HB.out.trans (HDR.out.below.mono HB.out.size)⟩
end Go.Proofs.YtmbcejldifobnaaDoor
