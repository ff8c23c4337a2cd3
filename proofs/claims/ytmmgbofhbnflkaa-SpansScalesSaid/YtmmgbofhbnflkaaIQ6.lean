import Derived.Test.YtmmgbofhbnflkaaIQA
namespace Go.Proofs.Ytmmgbofhbnflkaa
open Go.RowKit

/-! The reference's Span. -/
structure FV where
  s : Bool
  A : Option Addr
  n : Nat
  c : Nat
  B : Option Addr
  m : Nat
  d : Nat
  N : Int
  D : Nat
def FV.vn (x : FV) : Value := .slice x.A x.n x.c
def FV.vd (x : FV) : Value := .slice x.B x.m x.d
def FV.ok (x : FV) (w : World) (L : Nat) : Prop := FQ w L x.s (.slice x.A x.n x.c) (.slice x.B x.m x.d) x.N x.D
def FvAt (W : World) (g k : Nat) (x : FV) : Prop := W.cell? ⟨g, k * 3, none⟩ = some (.bool x.s) ∧ W.cell? ⟨g, k * 3 + 1, none⟩ = some (.slice x.A x.n x.c) ∧ W.cell? ⟨g, k * 3 + 2, none⟩ = some (.slice x.B x.m x.d)
theorem FvAt.up {W W' : World} {B g k : Nat} {x : FV} (h : FvAt W g k x) (hg : g < B) (hb : Below B W W') : FvAt W' g k x :=
  ⟨(hb.cell (p := ⟨g, k * 3, none⟩) hg).trans h.1, (hb.cell (p := ⟨g, k * 3 + 1, none⟩) hg).trans h.2.1, (hb.cell (p := ⟨g, k * 3 + 2, none⟩) hg).trans h.2.2⟩
def QV (W : World) (g : Nat) (x : FV) : Prop := QB W g x.s (.slice x.A x.n x.c) (.slice x.B x.m x.d)
def IB (W : World) (g : Nat) (a b : Int) : Prop := W.heap[g]? = some (.cells #[.int .i64 a, .int .i64 b] 23 (0, 0))
theorem IB.c0 {W : World} {g : Nat} {a b : Int} (h : IB W g a b) : W.cell? ⟨g, 0, none⟩ = some (.int .i64 a) := by rw [Go.Joins.cell_of_block h 0]; rfl
theorem IB.c1 {W : World} {g : Nat} {a b : Int} (h : IB W g a b) : W.cell? ⟨g, 1, none⟩ = some (.int .i64 b) := by rw [Go.Joins.cell_of_block h 1]; rfl
theorem IB.fr {W : World} {g : Nat} {a b : Int} (h : IB W g a b) (i : Nat) : W.frozen? ⟨g, i, none⟩ = false := by
  have e : W.heap[g]? = some (.cells #[.int .i64 a, .int .i64 b] 23 (0, 0)) := h
  simp [World.frozen?, e]
theorem IB.new (W : World) (a b : Int) : IB (W.alloc (.cells #[.int .i64 a, .int .i64 b] 23)) W.heap.size a b := World.alloc_heap_new W _
theorem IB.below {W W' : World} {B g : Nat} {a b : Int} (h : IB W g a b) (hb : Below B W W') (hg : g < B) : IB W' g a b := (hb.block g hg).trans h
theorem IB.lt {W : World} {g : Nat} {a b : Int} (h : IB W g a b) : g < W.heap.size := (Array.getElem?_eq_some_iff.1 (show W.heap[g]? = some _ from h)).1
theorem heap_wroteQ {W : World} {g k : Nat} (s : Bool) (u v : Value) (hne : g ≠ k) : (wroteQ W k s u v).heap[g]? = W.heap[g]? := by
  unfold wroteQ
  rw [heap_other _ hne, heap_other _ hne, heap_other _ hne]
theorem size_wroteQ (W : World) (k : Nat) (s : Bool) (u v : Value) : (wroteQ W k s u v).heap.size = W.heap.size := by simp [wroteQ, World.setCell]
/-- What the loop has in memory. -/
structure SpM (w : World) (gl gh : Nat) (x y : FV) (W : World) : Prop where
  ql : QV W gl x
  qh : QV W gh y
  qr : IB W w.heap.size 0 0
  ne : gl ≠ gh
  hl : w.heap.size < gl
  hh : w.heap.size < gh
  bl : Below w.heap.size w W
theorem SpM.below {w W W' : World} {gl gh : Nat} {x y : FV} (h : SpM w gl gh x y W) (hb : Below W.heap.size W W') : SpM w gl gh x y W' :=
  ⟨QB.below h.ql hb (QB.lt h.ql), QB.below h.qh hb (QB.lt h.qh), h.qr.below hb h.qr.lt, h.ne, h.hl, h.hh, h.bl.trans (hb.mono h.bl.size)⟩
theorem SpM.drew {w W : World} {gl gh : Nat} {x y : FV} (h : SpM w gl gh x y W) : SpM w gl gh x y W.drew := ⟨h.ql, h.qh, h.qr, h.ne, h.hl, h.hh, h.bl.drew⟩
theorem SpM.setL {w W : World} {gl gh : Nat} {x y : FV} (h : SpM w gl gh x y W) (z : FV) : SpM w gl gh z y (wroteQ W gl z.s (.slice z.A z.n z.c) (.slice z.B z.m z.d)) :=
  ⟨QB.write h.ql z.s _ _, (heap_wroteQ _ _ _ (Ne.symm h.ne)).trans h.qh, (heap_wroteQ _ _ _ (by have := h.hl; omega)).trans h.qr, h.ne, h.hl, h.hh, wroteQ_below h.bl (by have := h.hl; omega) _ _ _⟩
theorem SpM.setH {w W : World} {gl gh : Nat} {x y : FV} (h : SpM w gl gh x y W) (z : FV) : SpM w gl gh x z (wroteQ W gh z.s (.slice z.A z.n z.c) (.slice z.B z.m z.d)) :=
  ⟨(heap_wroteQ _ _ _ h.ne).trans h.ql, QB.write h.qh z.s _ _, (heap_wroteQ _ _ _ (by have := h.hh; omega)).trans h.qr, h.ne, h.hl, h.hh, wroteQ_below h.bl (by have := h.hh; omega) _ _ _⟩
def SpRel (w : World) (gl gh : Nat) (xs : List FV) (i : Value) (wr : World) : Prop :=
  ∃ (k : Nat) (x y : FV), 1 ≤ k ∧ k ≤ xs.length ∧ i = .int .i64 (k : Int) ∧ x ∈ xs ∧ y ∈ xs ∧ SpM w gl gh x y wr ∧ ∀ (j : Nat) (z : FV), j < k → xs[j]? = some z → x.N * (z.D : Int) ≤ z.N * (x.D : Int) ∧ z.N * (y.D : Int) ≤ y.N * (z.D : Int)
def SpPost (w : World) (xs : List FV) (e : Ending) (w' : World) : Prop :=
  ∃ x y : FV, x ∈ xs ∧ y ∈ xs ∧ (∀ z ∈ xs, x.N * (z.D : Int) ≤ z.N * (x.D : Int) ∧ z.N * (y.D : Int) ≤ y.N * (z.D : Int)) ∧ e = .returned (ivE (spanW (x.N / (x.D : Int)) (upI y.N (y.D : Int)))) ∧ Below w.heap.size w w'
theorem SpM_start (w : World) (x : FV) :
    SpM w (w.heap.size + 1) (w.heap.size + 1 + 1) x x (((w.alloc (.cells #[.int .i64 0, .int .i64 0] 23)).alloc (.cells #[.bool x.s, .slice x.A x.n x.c, .slice x.B x.m x.d] 61)).alloc (.cells #[.bool x.s, .slice x.A x.n x.c, .slice x.B x.m x.d] 61)).drew ∧
    SpM w (w.heap.size + 1 + 1) (w.heap.size + 1) x x (((w.alloc (.cells #[.int .i64 0, .int .i64 0] 23)).alloc (.cells #[.bool x.s, .slice x.A x.n x.c, .slice x.B x.m x.d] 61)).alloc (.cells #[.bool x.s, .slice x.A x.n x.c, .slice x.B x.m x.d] 61)).drew := by
  have b1 : Below w.heap.size w (w.alloc (.cells #[.int .i64 0, .int .i64 0] 23)) := (Below.refl _ w).alloc (Nat.le_refl _) _
  have q1 := IB.new w 0 0
  have q2 := QB.new (w.alloc (.cells #[.int .i64 0, .int .i64 0] 23)) x.s (.slice x.A x.n x.c) (.slice x.B x.m x.d)
  have q3 := QB.new ((w.alloc (.cells #[.int .i64 0, .int .i64 0] 23)).alloc (.cells #[.bool x.s, .slice x.A x.n x.c, .slice x.B x.m x.d] 61)) x.s (.slice x.A x.n x.c) (.slice x.B x.m x.d)
  have bA := fun (W : World) (o : Obj) => (Below.refl W.heap.size W).alloc (Nat.le_refl _) o
  rw [World.size_alloc] at q2
  rw [World.size_alloc, World.size_alloc] at q3
  have r1 := (q1.below (bA _ _) q1.lt).below (bA _ (.cells #[.bool x.s, .slice x.A x.n x.c, .slice x.B x.m x.d] 61)) (q1.below (bA _ (.cells #[.bool x.s, .slice x.A x.n x.c, .slice x.B x.m x.d] 61)) q1.lt).lt
  have r2 := q2.below (bA _ (.cells #[.bool x.s, .slice x.A x.n x.c, .slice x.B x.m x.d] 61)) q2.lt
  have bb := (b1.alloc (by simp) (.cells #[.bool x.s, .slice x.A x.n x.c, .slice x.B x.m x.d] 61)).alloc (by simp; omega) (.cells #[.bool x.s, .slice x.A x.n x.c, .slice x.B x.m x.d] 61)
  exact ⟨⟨r2, q3, r1, by omega, by omega, by omega, bb.drew⟩, ⟨q3, r2, r1, by omega, by omega, by omega, bb.drew⟩⟩
theorem cmp3_cases (a b : Int) : (a < b ∧ cmp3 a b < 0) ∨ (¬ a < b ∧ 0 ≤ cmp3 a b ∧ (b < a ↔ 0 < cmp3 a b)) := by
  unfold cmp3
  by_cases h : a < b
  · left; rw [if_pos h]; omega
  · right
    rw [if_neg h]
    by_cases h2 : a = b
    · rw [if_pos h2]; omega
    · rw [if_neg h2]; omega
theorem cmp3_gt (a b : Int) : (b < a ∧ 0 < cmp3 a b) ∨ (¬ b < a ∧ ¬ 0 < cmp3 a b) := by
  unfold cmp3
  by_cases h : a < b
  · rw [if_pos h]; omega
  · rw [if_neg h]
    by_cases h2 : a = b
    · rw [if_pos h2]; omega
    · rw [if_neg h2]; omega
set_option maxRecDepth 100000 in
set_option maxHeartbeats 2000000 in
theorem Span_any (g cap L : Nat) (xs : List FV) (w : World) (hL : L ≤ 512) (hn : 1 ≤ xs.length ∧ xs.length ≤ 1000) (hg : g < w.heap.size) (hc : ∀ (k : Nat) (x : FV), xs[k]? = some x → FvAt w g k x) (hx : ∀ x ∈ xs, x.ok w L) :
    Calls Try.prog 54 #[.slice (some ⟨g, 0, none⟩) xs.length cap] w (SpPost w xs) := by
  obtain ⟨x0, hx0⟩ : ∃ x, xs[0]? = some x := ⟨xs[0]'(by omega), List.getElem?_eq_getElem (by omega)⟩
  have hn1 : (0 : Int) < (xs.length : Int) := by omega
  have hn2 : 0 < xs.length := by omega
  obtain ⟨W1, hW1⟩ : ∃ W1, W1 = w.alloc (.cells #[.int .i64 0, .int .i64 0] 23) := ⟨_, rfl⟩
  have hb1 : Below w.heap.size w W1 := by rw [hW1]; exact (Below.refl _ _).alloc (Nat.le_refl _) _
  have hr1 : IB W1 w.heap.size 0 0 := by rw [hW1]; exact IB.new w 0 0
  obtain ⟨c0, c1, c2⟩ := (hc 0 x0 hx0).up hg hb1
  rw [Nat.zero_mul] at c0 c1 c2
  rw [Nat.zero_add] at c1 c2
  have HC := Lib.hid hc
  have HX := Lib.hid hx
  have HX0 := Lib.hid hx0
  have HB1 := Lib.hid hb1
  have HR1 := Lib.hid hr1
  have HN := Lib.hid hn
  have HW1 := Lib.hid hW1
  have hs1 : W1.heap.size = w.heap.size + 1 := by rw [hW1]; simp
  have HS1 := Lib.hid hs1
  clear hc hx hx0 hb1 hr1 hn hs1
  obtain ⟨s, A, n, c, B, m, d, N, D⟩ := x0
  simp only at c0 c1 c2
  subst hW1
  clear HW1
  go_enter Try.func54, Try.ntmps54
  go_wp2_with fail
  go_region_held3 (fun w' => w'.cell? ⟨g, 0, none⟩ = some (.bool s) ∧ w'.cell? ⟨g, 1, none⟩ = some (.slice A n c) ∧ w'.cell? ⟨g, 2, none⟩ = some (.slice B m d))
    (go_keep)
    (fail)
  · have hM0 := (SpM_start w ⟨s, A, n, c, B, m, d, N, D⟩).1
    simp only at hM0
    generalize (((w.alloc (.cells #[.int .i64 0, .int .i64 0] 23)).alloc (.cells #[.bool s, .slice A n c, .slice B m d] 61)).alloc (.cells #[.bool s, .slice A n c, .slice B m d] 61)).drew = W3 at *
    have HM0 := Lib.hid hM0
    clear hM0
    go_wp2_with fail
    go_loopw [6] (fun i wr => SpRel w (w.heap.size + 1) (w.heap.size + 1 + 1) xs i wr) (fun i _ => xs.length - (intOf i).toNat)
    case atStart =>
      refine ⟨1, _, _, Nat.le_refl _, HN.out.1, rfl, List.mem_of_getElem? HX0.out, List.mem_of_getElem? HX0.out, HM0.out, fun j z hj hz => ?_⟩
      obtain rfl : j = 0 := by omega
      rw [HX0.out] at hz
      cases hz
      exact ⟨Int.le_refl _, Int.le_refl _⟩
    case round =>
      clear HM0
      obtain ⟨k, x, y, hk1, hk, rfl, hxm, hym, hM, hall⟩ := hrel
      have HXM0 := Lib.hid hxm
      have HYM0 := Lib.hid hym
      have hxf := HX.out x hxm
      have hyf := HX.out y hym
      have HALL0 := Lib.hid hall
      clear hxm hym hall
      by_cases hlt : k < xs.length
      · obtain ⟨z, hz⟩ : ∃ z, xs[k]? = some z := ⟨xs[k], List.getElem?_eq_getElem hlt⟩
        have hzm := List.mem_of_getElem? hz
        have hzf := HX.out z hzm
        have hza := HC.out k z hz
        obtain ⟨xs', xA, xn, xc, xB, xm, xd, xN, xD⟩ := x
        obtain ⟨ys, yA, yn, yc, yB, ym, yd, yN, yD⟩ := y
        obtain ⟨zs, zA, zn, zc, zB, zm, zd, zN, zD⟩ := z
        have HZ := Lib.hid hza
        have HZF := Lib.hid hzf
        have HXF := Lib.hid hxf
        have HYF := Lib.hid hyf
        have HZM := Lib.hid hzm
        have HXM := HXM0
        have HYM := HYM0
        have HALL := Lib.hid (fun (j : Nat) (v : FV) (hj : j < k) (hv : xs[j]? = some v) => HALL0.out j v hj hv)
        have HK := Lib.hid hz
        have HYD := Lib.hid (show yD ≠ 0 from hyf.ne)
        have HXD := Lib.hid (show xD ≠ 0 from hxf.ne)
        have hgW : g < w.heap.size := hg
        have HLT := Lib.hid hlt
        have hkb : k < 1000 := by have := HN.out; omega
        have hklt : (k : Int) < (xs.length : Int) := by omega
        have hk0 : (0 : Int) ≤ (k : Int) := Int.natCast_nonneg _
        have hk1' : (1 : Int) ≤ (k : Int) := by omega
        obtain ⟨u0, u1, u2⟩ := FvAt.up hza hg hM.bl
        simp only at u0 u1 u2
        have v0 := QB.c0 hM.ql
        have v1 := QB.c1 hM.ql
        have v2 := QB.c2 hM.ql
        simp only at v0 v1 v2
        have hcmp := fcmp (FQ.up hzf hM.bl.drew) (FQ.up hxf hM.bl.drew) ⟨hL, hL⟩
        have HCL := Lib.hid hcmp
        have HMM := Lib.hid hM
        clear hza hzf hxf hyf hzm hz hcmp hM HALL0 HXM0 HYM0
        go_wp2_with fail
        go_region_held3 (fun w' => w'.cell? ⟨g, k * 3, none⟩ = some (.bool zs) ∧ w'.cell? ⟨g, k * 3 + 1, none⟩ = some (.slice zA zn zc) ∧ w'.cell? ⟨g, k * 3 + 2, none⟩ = some (.slice zB zm zd) ∧ w'.cell? ⟨w.heap.size + 1, 0, none⟩ = some (.bool xs') ∧ w'.cell? ⟨w.heap.size + 1, 1, none⟩ = some (.slice xA xn xc) ∧ w'.cell? ⟨w.heap.size + 1, 2, none⟩ = some (.slice xB xm xd))
          (refine ⟨?_, ?_, ?_, ?_, ?_, ?_⟩ <;> first | with_reducible assumption | go_keep)
          ((go_at_call 77; refine Calls.mono (HCL.out) ?_; rintro e w4 ⟨he, hbw4⟩; subst he; have hMw4 := SpM.below HMM.out.drew hbw4; have zaw4 := FvAt.up HZ.out hgW hMw4.bl; obtain ⟨zc0w4, zc1w4, zc2w4⟩ := zaw4; simp only at zc0w4 zc1w4 zc2w4; have xc0w4 := QB.c0 hMw4.ql; have xc1w4 := QB.c1 hMw4.ql; have xc2w4 := QB.c2 hMw4.ql; simp only at xc0w4 xc1w4 xc2w4))
        have HM4 := Lib.hid hMw4
        clear hMw4 u0 u1 u2 v0 v1 v2
        rcases cmp3_cases (zN * (xD : Int)) (xN * (zD : Int)) with ⟨hlo, hc⟩ | ⟨hlo, hc, -⟩
        · have hlow : ∀ (j : Nat) (v : FV), j < k + 1 → xs[j]? = some v → zN * (v.D : Int) ≤ v.N * (zD : Int) := fun j v hj hv => by
            rcases Nat.lt_or_ge j k with h | h
            · exact cross_trans HXD.out (Int.le_of_lt hlo) (HALL.out j v h hv).1
            · have : j = k := by omega
              subst this
              rw [HK.out] at hv
              cases hv
              exact Int.le_refl _
          have HLOW := Lib.hid hlow
          generalize cmp3 (zN * (xD : Int)) (xN * (zD : Int)) = cl at *
          have r3 := QB.fr HM4.out.ql 0
          have r4 := QB.fr HM4.out.ql 1
          have r5 := QB.fr HM4.out.ql 2
          clear hlow hlo
          go_wp2_with fail
          have hM5 := HM4.out.setL ⟨zs, zA, zn, zc, zB, zm, zd, zN, zD⟩
          simp only [wroteQ] at hM5
          generalize ((w4.setCell _ _).setCell _ _).setCell _ _ = w4' at *
          have hz1 := FvAt.up HZ.out hgW hM5.bl
          obtain ⟨u0, u1, u2⟩ := hz1
          simp only at u0 u1 u2
          have v0 := QB.c0 hM5.qh
          have v1 := QB.c1 hM5.qh
          have v2 := QB.c2 hM5.qh
          simp only at v0 v1 v2
          have hcmp := fcmp (FQ.up HZF.out hM5.bl.drew) (FQ.up HYF.out hM5.bl.drew) ⟨hL, hL⟩
          have HCH := Lib.hid hcmp
          have HM := Lib.hid hM5
          clear hcmp hM5
          go_wp2_with fail
          go_region_held3 (fun w' => w'.cell? ⟨g, k * 3, none⟩ = some (.bool zs) ∧ w'.cell? ⟨g, k * 3 + 1, none⟩ = some (.slice zA zn zc) ∧ w'.cell? ⟨g, k * 3 + 2, none⟩ = some (.slice zB zm zd) ∧ w'.cell? ⟨w.heap.size + 1 + 1, 0, none⟩ = some (.bool ys) ∧ w'.cell? ⟨w.heap.size + 1 + 1, 1, none⟩ = some (.slice yA yn yc) ∧ w'.cell? ⟨w.heap.size + 1 + 1, 2, none⟩ = some (.slice yB ym yd))
            (refine ⟨?_, ?_, ?_, ?_, ?_, ?_⟩ <;> first | with_reducible assumption | go_keep)
            ((go_at_call 77; refine Calls.mono (HCH.out) ?_; rintro e w5 ⟨he, hbw5⟩; subst he; have hMw5 := SpM.below HM.out.drew hbw5; have zaw5 := FvAt.up HZ.out hgW hMw5.bl; obtain ⟨zc0w5, zc1w5, zc2w5⟩ := zaw5; simp only at zc0w5 zc1w5 zc2w5; have xc0w5 := QB.c0 hMw5.qh; have xc1w5 := QB.c1 hMw5.qh; have xc2w5 := QB.c2 hMw5.qh; simp only at xc0w5 xc1w5 xc2w5))
          have HM5 := Lib.hid hMw5
          clear hMw5
          rcases cmp3_gt (zN * (yD : Int)) (yN * (zD : Int)) with ⟨hgt, hc⟩ | ⟨hgt, hc⟩
          · have hnew : ∀ (j : Nat) (v : FV), j < k + 1 → xs[j]? = some v → zN * (v.D : Int) ≤ v.N * (zD : Int) ∧ v.N * (zD : Int) ≤ zN * (v.D : Int) := fun j v hj hv => ⟨HLOW.out j v hj hv, by
                rcases Nat.lt_or_ge j k with h | h
                · exact cross_trans HYD.out (HALL.out j v h hv).2 (Int.le_of_lt hgt)
                · have : j = k := by omega
                  subst this
                  rw [HK.out] at hv
                  cases hv
                  exact Int.le_refl _⟩
            have HNEW := Lib.hid hnew
            generalize cmp3 (zN * (yD : Int)) (yN * (zD : Int)) = cc at *
            have r3 := QB.fr HM5.out.qh 0
            have r4 := QB.fr HM5.out.qh 1
            have r5 := QB.fr HM5.out.qh 2
            clear hnew hgt
            go_wp2_with fail
            have hM6 := HM5.out.setH ⟨zs, zA, zn, zc, zB, zm, zd, zN, zD⟩
            first
              | change _ ∧ _
              | skip
            go_roundw
            case rel => exact ⟨k + 1, ⟨zs, zA, zn, zc, zB, zm, zd, zN, zD⟩, ⟨zs, zA, zn, zc, zB, zm, zd, zN, zD⟩, by omega, (by have := HLT.out; omega), by go_num, HZM.out, HZM.out, hM6, HNEW.out⟩
            case measure => have := HLT.out; simp [intOf]; omega
          · have hnew : ∀ (j : Nat) (v : FV), j < k + 1 → xs[j]? = some v → zN * (v.D : Int) ≤ v.N * (zD : Int) ∧ v.N * (yD : Int) ≤ yN * (v.D : Int) := fun j v hj hv => ⟨HLOW.out j v hj hv, by
                rcases Nat.lt_or_ge j k with h | h
                · exact (HALL.out j v h hv).2
                · have : j = k := by omega
                  subst this
                  rw [HK.out] at hv
                  cases hv
                  exact Int.not_lt.1 hgt⟩
            have HNEW := Lib.hid hnew
            generalize cmp3 (zN * (yD : Int)) (yN * (zD : Int)) = cc at *
            clear hnew hgt
            go_wp2_with fail
            go_roundw
            case rel => exact ⟨k + 1, ⟨zs, zA, zn, zc, zB, zm, zd, zN, zD⟩, ⟨ys, yA, yn, yc, yB, ym, yd, yN, yD⟩, by omega, (by have := HLT.out; omega), by go_num, HZM.out, HYM.out, HM5.out, HNEW.out⟩
            case measure => have := HLT.out; simp [intOf]; omega
        · have hlow : ∀ (j : Nat) (v : FV), j < k + 1 → xs[j]? = some v → xN * (v.D : Int) ≤ v.N * (xD : Int) := fun j v hj hv => by
            rcases Nat.lt_or_ge j k with h | h
            · exact (HALL.out j v h hv).1
            · have : j = k := by omega
              subst this
              rw [HK.out] at hv
              cases hv
              exact Int.not_lt.1 hlo
          have HLOW := Lib.hid hlow
          have hc' : ¬ cmp3 (zN * (xD : Int)) (xN * (zD : Int)) < 0 := by omega
          generalize cmp3 (zN * (xD : Int)) (xN * (zD : Int)) = cl at *
          have hM5 := HM4.out
          clear hlow hlo hc
          have hz1 := FvAt.up HZ.out hgW hM5.bl
          obtain ⟨u0, u1, u2⟩ := hz1
          simp only at u0 u1 u2
          have v0 := QB.c0 hM5.qh
          have v1 := QB.c1 hM5.qh
          have v2 := QB.c2 hM5.qh
          simp only at v0 v1 v2
          have hcmp := fcmp (FQ.up HZF.out hM5.bl.drew) (FQ.up HYF.out hM5.bl.drew) ⟨hL, hL⟩
          have HCH := Lib.hid hcmp
          have HM := Lib.hid hM5
          clear hcmp hM5
          go_wp2_with fail
          go_region_held3 (fun w' => w'.cell? ⟨g, k * 3, none⟩ = some (.bool zs) ∧ w'.cell? ⟨g, k * 3 + 1, none⟩ = some (.slice zA zn zc) ∧ w'.cell? ⟨g, k * 3 + 2, none⟩ = some (.slice zB zm zd) ∧ w'.cell? ⟨w.heap.size + 1 + 1, 0, none⟩ = some (.bool ys) ∧ w'.cell? ⟨w.heap.size + 1 + 1, 1, none⟩ = some (.slice yA yn yc) ∧ w'.cell? ⟨w.heap.size + 1 + 1, 2, none⟩ = some (.slice yB ym yd))
            (refine ⟨?_, ?_, ?_, ?_, ?_, ?_⟩ <;> first | with_reducible assumption | go_keep)
            ((go_at_call 77; refine Calls.mono (HCH.out) ?_; rintro e w5 ⟨he, hbw5⟩; subst he; have hMw5 := SpM.below HM.out.drew hbw5; have zaw5 := FvAt.up HZ.out hgW hMw5.bl; obtain ⟨zc0w5, zc1w5, zc2w5⟩ := zaw5; simp only at zc0w5 zc1w5 zc2w5; have xc0w5 := QB.c0 hMw5.qh; have xc1w5 := QB.c1 hMw5.qh; have xc2w5 := QB.c2 hMw5.qh; simp only at xc0w5 xc1w5 xc2w5))
          have HM5 := Lib.hid hMw5
          clear hMw5
          rcases cmp3_gt (zN * (yD : Int)) (yN * (zD : Int)) with ⟨hgt, hc⟩ | ⟨hgt, hc⟩
          · have hnew : ∀ (j : Nat) (v : FV), j < k + 1 → xs[j]? = some v → xN * (v.D : Int) ≤ v.N * (xD : Int) ∧ v.N * (zD : Int) ≤ zN * (v.D : Int) := fun j v hj hv => ⟨HLOW.out j v hj hv, by
                rcases Nat.lt_or_ge j k with h | h
                · exact cross_trans HYD.out (HALL.out j v h hv).2 (Int.le_of_lt hgt)
                · have : j = k := by omega
                  subst this
                  rw [HK.out] at hv
                  cases hv
                  exact Int.le_refl _⟩
            have HNEW := Lib.hid hnew
            generalize cmp3 (zN * (yD : Int)) (yN * (zD : Int)) = cc at *
            have r3 := QB.fr HM5.out.qh 0
            have r4 := QB.fr HM5.out.qh 1
            have r5 := QB.fr HM5.out.qh 2
            clear hnew hgt
            go_wp2_with fail
            have hM6 := HM5.out.setH ⟨zs, zA, zn, zc, zB, zm, zd, zN, zD⟩
            first
              | change _ ∧ _
              | skip
            go_roundw
            case rel => exact ⟨k + 1, ⟨xs', xA, xn, xc, xB, xm, xd, xN, xD⟩, ⟨zs, zA, zn, zc, zB, zm, zd, zN, zD⟩, by omega, (by have := HLT.out; omega), by go_num, HXM.out, HZM.out, hM6, HNEW.out⟩
            case measure => have := HLT.out; simp [intOf]; omega
          · have hnew : ∀ (j : Nat) (v : FV), j < k + 1 → xs[j]? = some v → xN * (v.D : Int) ≤ v.N * (xD : Int) ∧ v.N * (yD : Int) ≤ yN * (v.D : Int) := fun j v hj hv => ⟨HLOW.out j v hj hv, by
                rcases Nat.lt_or_ge j k with h | h
                · exact (HALL.out j v h hv).2
                · have : j = k := by omega
                  subst this
                  rw [HK.out] at hv
                  cases hv
                  exact Int.not_lt.1 hgt⟩
            have HNEW := Lib.hid hnew
            generalize cmp3 (zN * (yD : Int)) (yN * (zD : Int)) = cc at *
            clear hnew hgt
            go_wp2_with fail
            go_roundw
            case rel => exact ⟨k + 1, ⟨xs', xA, xn, xc, xB, xm, xd, xN, xD⟩, ⟨ys, yA, yn, yc, yB, ym, yd, yN, yD⟩, by omega, (by have := HLT.out; omega), by go_num, HXM.out, HYM.out, HM5.out, HNEW.out⟩
            case measure => have := HLT.out; simp [intOf]; omega
      · obtain rfl : k = xs.length := by omega
        have hpost : ∀ z ∈ xs, x.N * (z.D : Int) ≤ z.N * (x.D : Int) ∧ z.N * (y.D : Int) ≤ y.N * (z.D : Int) := fun z hz => by
          obtain ⟨j, hj⟩ := List.mem_iff_getElem?.1 hz
          exact HALL0.out j z (List.getElem?_eq_some_iff.1 hj).1 hj
        have HPOST := Lib.hid hpost
        obtain ⟨xs', xA, xn, xc, xB, xm, xd, xN, xD⟩ := x
        obtain ⟨ys, yA, yn, yc, yB, ym, yd, yN, yD⟩ := y
        have v0 := QB.c0 hM.ql
        have v1 := QB.c1 hM.ql
        have v2 := QB.c2 hM.ql
        simp only at v0 v1 v2
        have hfl := floor03_any (FQ.up hxf hM.bl) hL
        have HFL := Lib.hid hfl
        have HYF := Lib.hid hyf
        have HMM := Lib.hid hM
        simp only at HFL
        clear hpost hfl hxf hyf hM HALL0
        have hlt' : ¬ (xs.length : Int) < (xs.length : Int) := by omega
        go_wp2_with fail
        refine HFL.out.mono ?_
        rintro e w4 ⟨he, hb4⟩
        subst he
        have hM4 := SpM.below HMM.out hb4
        have t0 := QB.c0 hM4.qh
        have t1 := QB.c1 hM4.qh
        have t2 := QB.c2 hM4.qh
        simp only at t0 t1 t2
        have hce := ceil03_any (FQ.up HYF.out hM4.bl) hL
        have HCE := Lib.hid hce
        have HM4 := Lib.hid hM4
        simp only at HCE
        clear hce hM4 hb4
        go_wp2_with fail
        refine HCE.out.mono ?_
        rintro e w5 ⟨he, hb5⟩
        subst he
        have hM5 := SpM.below HM4.out hb5
        have r0 := hM5.qr.c0
        have r1 := hM5.qr.c1
        have f0 := hM5.qr.fr 0
        have f1 := hM5.qr.fr 1
        have HM5 := Lib.hid hM5
        have hW : ∀ a b : Int, IB ((w5.setCell ⟨w.heap.size, 0, none⟩ (.int .i64 a)).setCell ⟨w.heap.size, 1, none⟩ (.int .i64 b)) w.heap.size a b ∧ Below w.heap.size w ((w5.setCell ⟨w.heap.size, 0, none⟩ (.int .i64 a)).setCell ⟨w.heap.size, 1, none⟩ (.int .i64 b)) := fun a b => by
          have e : w5.heap[w.heap.size]? = some (.cells #[.int .i64 0, .int .i64 0] 23 (0, 0)) := HM5.out.qr
          refine ⟨?_, (HM5.out.bl.setCell (p := ⟨w.heap.size, 0, none⟩) (Nat.le_refl _) _).setCell (p := ⟨w.heap.size, 1, none⟩) (Nat.le_refl _) _⟩
          show ((w5.setCell _ _).setCell _ _).heap[w.heap.size]? = _
          simp [World.setCell, Array.getElem?_modify, e]
        have HW := Lib.hid hW
        have hres : ivE (spanW (xN / (xD : Int)) (upI yN (yD : Int))) = if okB (xN / (xD : Int)) = true ∧ okB (upI yN (yD : Int)) = true then .tuple #[.agg #[.int .i64 (okV (xN / (xD : Int))), .int .i64 (okV (upI yN (yD : Int)))], .int .i64 0] else .tuple #[.agg #[.int .i64 0, .int .i64 0], .int .i64 7] := by
          unfold spanW okV
          cases h1 : okB (xN / (xD : Int)) <;> cases h2 : okB (upI yN (yD : Int)) <;> simp [ivE, ivV]
        have HRES := Lib.hid hres
        clear hM5 hW hb5 hres
        have hfin : ∀ W, Below w.heap.size w W → ∀ v, v = ivE (spanW (xN / (xD : Int)) (upI yN (yD : Int))) → SpPost w xs (.returned v) W := fun W hb v hv => ⟨_, _, HXM0.out, HYM0.out, HPOST.out, by rw [hv], hb⟩
        have HFIN := Lib.hid hfin
        clear hfin
        generalize okV (xN / (xD : Int)) = lo at *
        generalize okV (upI yN (yD : Int)) = hi at *
        generalize okB (xN / (xD : Int)) = b1 at *
        generalize okB (upI yN (yD : Int)) = b2 at *
        cases b1
        · go_wp2_with fail
          obtain ⟨g1, g4⟩ := HW.out 0 0
          generalize (w5.setCell _ _).setCell _ _ = W9 at g1 g4 ⊢
          have k0 := g1.c0
          have k1 := g1.c1
          refine bodyPost_ret (v := .tuple #[.agg #[.int .i64 0, .int .i64 0], .int .i64 7]) ?_ rfl (HFIN.out _ g4 _ (by rw [HRES.out]; simp))
          simp [results, Try.results54, k0, k1, go_sem]
        · cases b2
          · go_wp2_with fail
            obtain ⟨g1, g4⟩ := HW.out 0 0
            generalize (w5.setCell _ _).setCell _ _ = W9 at g1 g4 ⊢
            have k0 := g1.c0
            have k1 := g1.c1
            refine bodyPost_ret (v := .tuple #[.agg #[.int .i64 0, .int .i64 0], .int .i64 7]) ?_ rfl (HFIN.out _ g4 _ (by rw [HRES.out]; simp))
            simp [results, Try.results54, k0, k1, go_sem]
          · go_wp2_with fail
            obtain ⟨g1, g4⟩ := HW.out lo hi
            generalize (w5.setCell _ _).setCell _ _ = W9 at g1 g4 ⊢
            have k0 := g1.c0
            have k1 := g1.c1
            refine bodyPost_ret (v := .tuple #[.agg #[.int .i64 lo, .int .i64 hi], .int .i64 0]) ?_ rfl (HFIN.out _ g4 _ (by rw [HRES.out]; simp))
            simp [results, Try.results54, k0, k1, go_sem]
  · have hM0 := (SpM_start w ⟨s, A, n, c, B, m, d, N, D⟩).2
    simp only at hM0
    generalize (((w.alloc (.cells #[.int .i64 0, .int .i64 0] 23)).alloc (.cells #[.bool s, .slice A n c, .slice B m d] 61)).alloc (.cells #[.bool s, .slice A n c, .slice B m d] 61)).drew = W3 at *
    have HM0 := Lib.hid hM0
    clear hM0
    go_wp2_with fail
    go_loopw [6] (fun i wr => SpRel w (w.heap.size + 1 + 1) (w.heap.size + 1) xs i wr) (fun i _ => xs.length - (intOf i).toNat)
    case atStart =>
      refine ⟨1, _, _, Nat.le_refl _, HN.out.1, rfl, List.mem_of_getElem? HX0.out, List.mem_of_getElem? HX0.out, HM0.out, fun j z hj hz => ?_⟩
      obtain rfl : j = 0 := by omega
      rw [HX0.out] at hz
      cases hz
      exact ⟨Int.le_refl _, Int.le_refl _⟩
    case round =>
      clear HM0
      obtain ⟨k, x, y, hk1, hk, rfl, hxm, hym, hM, hall⟩ := hrel
      have HXM0 := Lib.hid hxm
      have HYM0 := Lib.hid hym
      have hxf := HX.out x hxm
      have hyf := HX.out y hym
      have HALL0 := Lib.hid hall
      clear hxm hym hall
      by_cases hlt : k < xs.length
      · obtain ⟨z, hz⟩ : ∃ z, xs[k]? = some z := ⟨xs[k], List.getElem?_eq_getElem hlt⟩
        have hzm := List.mem_of_getElem? hz
        have hzf := HX.out z hzm
        have hza := HC.out k z hz
        obtain ⟨xs', xA, xn, xc, xB, xm, xd, xN, xD⟩ := x
        obtain ⟨ys, yA, yn, yc, yB, ym, yd, yN, yD⟩ := y
        obtain ⟨zs, zA, zn, zc, zB, zm, zd, zN, zD⟩ := z
        have HZ := Lib.hid hza
        have HZF := Lib.hid hzf
        have HXF := Lib.hid hxf
        have HYF := Lib.hid hyf
        have HZM := Lib.hid hzm
        have HXM := HXM0
        have HYM := HYM0
        have HALL := Lib.hid (fun (j : Nat) (v : FV) (hj : j < k) (hv : xs[j]? = some v) => HALL0.out j v hj hv)
        have HK := Lib.hid hz
        have HYD := Lib.hid (show yD ≠ 0 from hyf.ne)
        have HXD := Lib.hid (show xD ≠ 0 from hxf.ne)
        have hgW : g < w.heap.size := hg
        have HLT := Lib.hid hlt
        have hkb : k < 1000 := by have := HN.out; omega
        have hklt : (k : Int) < (xs.length : Int) := by omega
        have hk0 : (0 : Int) ≤ (k : Int) := Int.natCast_nonneg _
        have hk1' : (1 : Int) ≤ (k : Int) := by omega
        obtain ⟨u0, u1, u2⟩ := FvAt.up hza hg hM.bl
        simp only at u0 u1 u2
        have v0 := QB.c0 hM.ql
        have v1 := QB.c1 hM.ql
        have v2 := QB.c2 hM.ql
        simp only at v0 v1 v2
        have hcmp := fcmp (FQ.up hzf hM.bl.drew) (FQ.up hxf hM.bl.drew) ⟨hL, hL⟩
        have HCL := Lib.hid hcmp
        have HMM := Lib.hid hM
        clear hza hzf hxf hyf hzm hz hcmp hM HALL0 HXM0 HYM0
        go_wp2_with fail
        go_region_held3 (fun w' => w'.cell? ⟨g, k * 3, none⟩ = some (.bool zs) ∧ w'.cell? ⟨g, k * 3 + 1, none⟩ = some (.slice zA zn zc) ∧ w'.cell? ⟨g, k * 3 + 2, none⟩ = some (.slice zB zm zd) ∧ w'.cell? ⟨w.heap.size + 1 + 1, 0, none⟩ = some (.bool xs') ∧ w'.cell? ⟨w.heap.size + 1 + 1, 1, none⟩ = some (.slice xA xn xc) ∧ w'.cell? ⟨w.heap.size + 1 + 1, 2, none⟩ = some (.slice xB xm xd))
          (refine ⟨?_, ?_, ?_, ?_, ?_, ?_⟩ <;> first | with_reducible assumption | go_keep)
          ((go_at_call 77; refine Calls.mono (HCL.out) ?_; rintro e w4 ⟨he, hbw4⟩; subst he; have hMw4 := SpM.below HMM.out.drew hbw4; have zaw4 := FvAt.up HZ.out hgW hMw4.bl; obtain ⟨zc0w4, zc1w4, zc2w4⟩ := zaw4; simp only at zc0w4 zc1w4 zc2w4; have xc0w4 := QB.c0 hMw4.ql; have xc1w4 := QB.c1 hMw4.ql; have xc2w4 := QB.c2 hMw4.ql; simp only at xc0w4 xc1w4 xc2w4))
        have HM4 := Lib.hid hMw4
        clear hMw4 u0 u1 u2 v0 v1 v2
        rcases cmp3_cases (zN * (xD : Int)) (xN * (zD : Int)) with ⟨hlo, hc⟩ | ⟨hlo, hc, -⟩
        · have hlow : ∀ (j : Nat) (v : FV), j < k + 1 → xs[j]? = some v → zN * (v.D : Int) ≤ v.N * (zD : Int) := fun j v hj hv => by
            rcases Nat.lt_or_ge j k with h | h
            · exact cross_trans HXD.out (Int.le_of_lt hlo) (HALL.out j v h hv).1
            · have : j = k := by omega
              subst this
              rw [HK.out] at hv
              cases hv
              exact Int.le_refl _
          have HLOW := Lib.hid hlow
          generalize cmp3 (zN * (xD : Int)) (xN * (zD : Int)) = cl at *
          have r3 := QB.fr HM4.out.ql 0
          have r4 := QB.fr HM4.out.ql 1
          have r5 := QB.fr HM4.out.ql 2
          clear hlow hlo
          go_wp2_with fail
          have hM5 := HM4.out.setL ⟨zs, zA, zn, zc, zB, zm, zd, zN, zD⟩
          simp only [wroteQ] at hM5
          generalize ((w4.setCell _ _).setCell _ _).setCell _ _ = w4' at *
          have hz1 := FvAt.up HZ.out hgW hM5.bl
          obtain ⟨u0, u1, u2⟩ := hz1
          simp only at u0 u1 u2
          have v0 := QB.c0 hM5.qh
          have v1 := QB.c1 hM5.qh
          have v2 := QB.c2 hM5.qh
          simp only at v0 v1 v2
          have hcmp := fcmp (FQ.up HZF.out hM5.bl.drew) (FQ.up HYF.out hM5.bl.drew) ⟨hL, hL⟩
          have HCH := Lib.hid hcmp
          have HM := Lib.hid hM5
          clear hcmp hM5
          go_wp2_with fail
          go_region_held3 (fun w' => w'.cell? ⟨g, k * 3, none⟩ = some (.bool zs) ∧ w'.cell? ⟨g, k * 3 + 1, none⟩ = some (.slice zA zn zc) ∧ w'.cell? ⟨g, k * 3 + 2, none⟩ = some (.slice zB zm zd) ∧ w'.cell? ⟨w.heap.size + 1, 0, none⟩ = some (.bool ys) ∧ w'.cell? ⟨w.heap.size + 1, 1, none⟩ = some (.slice yA yn yc) ∧ w'.cell? ⟨w.heap.size + 1, 2, none⟩ = some (.slice yB ym yd))
            (refine ⟨?_, ?_, ?_, ?_, ?_, ?_⟩ <;> first | with_reducible assumption | go_keep)
            ((go_at_call 77; refine Calls.mono (HCH.out) ?_; rintro e w5 ⟨he, hbw5⟩; subst he; have hMw5 := SpM.below HM.out.drew hbw5; have zaw5 := FvAt.up HZ.out hgW hMw5.bl; obtain ⟨zc0w5, zc1w5, zc2w5⟩ := zaw5; simp only at zc0w5 zc1w5 zc2w5; have xc0w5 := QB.c0 hMw5.qh; have xc1w5 := QB.c1 hMw5.qh; have xc2w5 := QB.c2 hMw5.qh; simp only at xc0w5 xc1w5 xc2w5))
          have HM5 := Lib.hid hMw5
          clear hMw5
          rcases cmp3_gt (zN * (yD : Int)) (yN * (zD : Int)) with ⟨hgt, hc⟩ | ⟨hgt, hc⟩
          · have hnew : ∀ (j : Nat) (v : FV), j < k + 1 → xs[j]? = some v → zN * (v.D : Int) ≤ v.N * (zD : Int) ∧ v.N * (zD : Int) ≤ zN * (v.D : Int) := fun j v hj hv => ⟨HLOW.out j v hj hv, by
                rcases Nat.lt_or_ge j k with h | h
                · exact cross_trans HYD.out (HALL.out j v h hv).2 (Int.le_of_lt hgt)
                · have : j = k := by omega
                  subst this
                  rw [HK.out] at hv
                  cases hv
                  exact Int.le_refl _⟩
            have HNEW := Lib.hid hnew
            generalize cmp3 (zN * (yD : Int)) (yN * (zD : Int)) = cc at *
            have r3 := QB.fr HM5.out.qh 0
            have r4 := QB.fr HM5.out.qh 1
            have r5 := QB.fr HM5.out.qh 2
            clear hnew hgt
            go_wp2_with fail
            have hM6 := HM5.out.setH ⟨zs, zA, zn, zc, zB, zm, zd, zN, zD⟩
            first
              | change _ ∧ _
              | skip
            go_roundw
            case rel => exact ⟨k + 1, ⟨zs, zA, zn, zc, zB, zm, zd, zN, zD⟩, ⟨zs, zA, zn, zc, zB, zm, zd, zN, zD⟩, by omega, (by have := HLT.out; omega), by go_num, HZM.out, HZM.out, hM6, HNEW.out⟩
            case measure => have := HLT.out; simp [intOf]; omega
          · have hnew : ∀ (j : Nat) (v : FV), j < k + 1 → xs[j]? = some v → zN * (v.D : Int) ≤ v.N * (zD : Int) ∧ v.N * (yD : Int) ≤ yN * (v.D : Int) := fun j v hj hv => ⟨HLOW.out j v hj hv, by
                rcases Nat.lt_or_ge j k with h | h
                · exact (HALL.out j v h hv).2
                · have : j = k := by omega
                  subst this
                  rw [HK.out] at hv
                  cases hv
                  exact Int.not_lt.1 hgt⟩
            have HNEW := Lib.hid hnew
            generalize cmp3 (zN * (yD : Int)) (yN * (zD : Int)) = cc at *
            clear hnew hgt
            go_wp2_with fail
            go_roundw
            case rel => exact ⟨k + 1, ⟨zs, zA, zn, zc, zB, zm, zd, zN, zD⟩, ⟨ys, yA, yn, yc, yB, ym, yd, yN, yD⟩, by omega, (by have := HLT.out; omega), by go_num, HZM.out, HYM.out, HM5.out, HNEW.out⟩
            case measure => have := HLT.out; simp [intOf]; omega
        · have hlow : ∀ (j : Nat) (v : FV), j < k + 1 → xs[j]? = some v → xN * (v.D : Int) ≤ v.N * (xD : Int) := fun j v hj hv => by
            rcases Nat.lt_or_ge j k with h | h
            · exact (HALL.out j v h hv).1
            · have : j = k := by omega
              subst this
              rw [HK.out] at hv
              cases hv
              exact Int.not_lt.1 hlo
          have HLOW := Lib.hid hlow
          have hc' : ¬ cmp3 (zN * (xD : Int)) (xN * (zD : Int)) < 0 := by omega
          generalize cmp3 (zN * (xD : Int)) (xN * (zD : Int)) = cl at *
          have hM5 := HM4.out
          clear hlow hlo hc
          have hz1 := FvAt.up HZ.out hgW hM5.bl
          obtain ⟨u0, u1, u2⟩ := hz1
          simp only at u0 u1 u2
          have v0 := QB.c0 hM5.qh
          have v1 := QB.c1 hM5.qh
          have v2 := QB.c2 hM5.qh
          simp only at v0 v1 v2
          have hcmp := fcmp (FQ.up HZF.out hM5.bl.drew) (FQ.up HYF.out hM5.bl.drew) ⟨hL, hL⟩
          have HCH := Lib.hid hcmp
          have HM := Lib.hid hM5
          clear hcmp hM5
          go_wp2_with fail
          go_region_held3 (fun w' => w'.cell? ⟨g, k * 3, none⟩ = some (.bool zs) ∧ w'.cell? ⟨g, k * 3 + 1, none⟩ = some (.slice zA zn zc) ∧ w'.cell? ⟨g, k * 3 + 2, none⟩ = some (.slice zB zm zd) ∧ w'.cell? ⟨w.heap.size + 1, 0, none⟩ = some (.bool ys) ∧ w'.cell? ⟨w.heap.size + 1, 1, none⟩ = some (.slice yA yn yc) ∧ w'.cell? ⟨w.heap.size + 1, 2, none⟩ = some (.slice yB ym yd))
            (refine ⟨?_, ?_, ?_, ?_, ?_, ?_⟩ <;> first | with_reducible assumption | go_keep)
            ((go_at_call 77; refine Calls.mono (HCH.out) ?_; rintro e w5 ⟨he, hbw5⟩; subst he; have hMw5 := SpM.below HM.out.drew hbw5; have zaw5 := FvAt.up HZ.out hgW hMw5.bl; obtain ⟨zc0w5, zc1w5, zc2w5⟩ := zaw5; simp only at zc0w5 zc1w5 zc2w5; have xc0w5 := QB.c0 hMw5.qh; have xc1w5 := QB.c1 hMw5.qh; have xc2w5 := QB.c2 hMw5.qh; simp only at xc0w5 xc1w5 xc2w5))
          have HM5 := Lib.hid hMw5
          clear hMw5
          rcases cmp3_gt (zN * (yD : Int)) (yN * (zD : Int)) with ⟨hgt, hc⟩ | ⟨hgt, hc⟩
          · have hnew : ∀ (j : Nat) (v : FV), j < k + 1 → xs[j]? = some v → xN * (v.D : Int) ≤ v.N * (xD : Int) ∧ v.N * (zD : Int) ≤ zN * (v.D : Int) := fun j v hj hv => ⟨HLOW.out j v hj hv, by
                rcases Nat.lt_or_ge j k with h | h
                · exact cross_trans HYD.out (HALL.out j v h hv).2 (Int.le_of_lt hgt)
                · have : j = k := by omega
                  subst this
                  rw [HK.out] at hv
                  cases hv
                  exact Int.le_refl _⟩
            have HNEW := Lib.hid hnew
            generalize cmp3 (zN * (yD : Int)) (yN * (zD : Int)) = cc at *
            have r3 := QB.fr HM5.out.qh 0
            have r4 := QB.fr HM5.out.qh 1
            have r5 := QB.fr HM5.out.qh 2
            clear hnew hgt
            go_wp2_with fail
            have hM6 := HM5.out.setH ⟨zs, zA, zn, zc, zB, zm, zd, zN, zD⟩
            first
              | change _ ∧ _
              | skip
            go_roundw
            case rel => exact ⟨k + 1, ⟨xs', xA, xn, xc, xB, xm, xd, xN, xD⟩, ⟨zs, zA, zn, zc, zB, zm, zd, zN, zD⟩, by omega, (by have := HLT.out; omega), by go_num, HXM.out, HZM.out, hM6, HNEW.out⟩
            case measure => have := HLT.out; simp [intOf]; omega
          · have hnew : ∀ (j : Nat) (v : FV), j < k + 1 → xs[j]? = some v → xN * (v.D : Int) ≤ v.N * (xD : Int) ∧ v.N * (yD : Int) ≤ yN * (v.D : Int) := fun j v hj hv => ⟨HLOW.out j v hj hv, by
                rcases Nat.lt_or_ge j k with h | h
                · exact (HALL.out j v h hv).2
                · have : j = k := by omega
                  subst this
                  rw [HK.out] at hv
                  cases hv
                  exact Int.not_lt.1 hgt⟩
            have HNEW := Lib.hid hnew
            generalize cmp3 (zN * (yD : Int)) (yN * (zD : Int)) = cc at *
            clear hnew hgt
            go_wp2_with fail
            go_roundw
            case rel => exact ⟨k + 1, ⟨xs', xA, xn, xc, xB, xm, xd, xN, xD⟩, ⟨ys, yA, yn, yc, yB, ym, yd, yN, yD⟩, by omega, (by have := HLT.out; omega), by go_num, HXM.out, HYM.out, HM5.out, HNEW.out⟩
            case measure => have := HLT.out; simp [intOf]; omega
      · obtain rfl : k = xs.length := by omega
        have hpost : ∀ z ∈ xs, x.N * (z.D : Int) ≤ z.N * (x.D : Int) ∧ z.N * (y.D : Int) ≤ y.N * (z.D : Int) := fun z hz => by
          obtain ⟨j, hj⟩ := List.mem_iff_getElem?.1 hz
          exact HALL0.out j z (List.getElem?_eq_some_iff.1 hj).1 hj
        have HPOST := Lib.hid hpost
        obtain ⟨xs', xA, xn, xc, xB, xm, xd, xN, xD⟩ := x
        obtain ⟨ys, yA, yn, yc, yB, ym, yd, yN, yD⟩ := y
        have v0 := QB.c0 hM.ql
        have v1 := QB.c1 hM.ql
        have v2 := QB.c2 hM.ql
        simp only at v0 v1 v2
        have hfl := floor03_any (FQ.up hxf hM.bl) hL
        have HFL := Lib.hid hfl
        have HYF := Lib.hid hyf
        have HMM := Lib.hid hM
        simp only at HFL
        clear hpost hfl hxf hyf hM HALL0
        have hlt' : ¬ (xs.length : Int) < (xs.length : Int) := by omega
        go_wp2_with fail
        refine HFL.out.mono ?_
        rintro e w4 ⟨he, hb4⟩
        subst he
        have hM4 := SpM.below HMM.out hb4
        have t0 := QB.c0 hM4.qh
        have t1 := QB.c1 hM4.qh
        have t2 := QB.c2 hM4.qh
        simp only at t0 t1 t2
        have hce := ceil03_any (FQ.up HYF.out hM4.bl) hL
        have HCE := Lib.hid hce
        have HM4 := Lib.hid hM4
        simp only at HCE
        clear hce hM4 hb4
        go_wp2_with fail
        refine HCE.out.mono ?_
        rintro e w5 ⟨he, hb5⟩
        subst he
        have hM5 := SpM.below HM4.out hb5
        have r0 := hM5.qr.c0
        have r1 := hM5.qr.c1
        have f0 := hM5.qr.fr 0
        have f1 := hM5.qr.fr 1
        have HM5 := Lib.hid hM5
        have hW : ∀ a b : Int, IB ((w5.setCell ⟨w.heap.size, 0, none⟩ (.int .i64 a)).setCell ⟨w.heap.size, 1, none⟩ (.int .i64 b)) w.heap.size a b ∧ Below w.heap.size w ((w5.setCell ⟨w.heap.size, 0, none⟩ (.int .i64 a)).setCell ⟨w.heap.size, 1, none⟩ (.int .i64 b)) := fun a b => by
          have e : w5.heap[w.heap.size]? = some (.cells #[.int .i64 0, .int .i64 0] 23 (0, 0)) := HM5.out.qr
          refine ⟨?_, (HM5.out.bl.setCell (p := ⟨w.heap.size, 0, none⟩) (Nat.le_refl _) _).setCell (p := ⟨w.heap.size, 1, none⟩) (Nat.le_refl _) _⟩
          show ((w5.setCell _ _).setCell _ _).heap[w.heap.size]? = _
          simp [World.setCell, Array.getElem?_modify, e]
        have HW := Lib.hid hW
        have hres : ivE (spanW (xN / (xD : Int)) (upI yN (yD : Int))) = if okB (xN / (xD : Int)) = true ∧ okB (upI yN (yD : Int)) = true then .tuple #[.agg #[.int .i64 (okV (xN / (xD : Int))), .int .i64 (okV (upI yN (yD : Int)))], .int .i64 0] else .tuple #[.agg #[.int .i64 0, .int .i64 0], .int .i64 7] := by
          unfold spanW okV
          cases h1 : okB (xN / (xD : Int)) <;> cases h2 : okB (upI yN (yD : Int)) <;> simp [ivE, ivV]
        have HRES := Lib.hid hres
        clear hM5 hW hb5 hres
        have hfin : ∀ W, Below w.heap.size w W → ∀ v, v = ivE (spanW (xN / (xD : Int)) (upI yN (yD : Int))) → SpPost w xs (.returned v) W := fun W hb v hv => ⟨_, _, HXM0.out, HYM0.out, HPOST.out, by rw [hv], hb⟩
        have HFIN := Lib.hid hfin
        clear hfin
        generalize okV (xN / (xD : Int)) = lo at *
        generalize okV (upI yN (yD : Int)) = hi at *
        generalize okB (xN / (xD : Int)) = b1 at *
        generalize okB (upI yN (yD : Int)) = b2 at *
        cases b1
        · go_wp2_with fail
          obtain ⟨g1, g4⟩ := HW.out 0 0
          generalize (w5.setCell _ _).setCell _ _ = W9 at g1 g4 ⊢
          have k0 := g1.c0
          have k1 := g1.c1
          refine bodyPost_ret (v := .tuple #[.agg #[.int .i64 0, .int .i64 0], .int .i64 7]) ?_ rfl (HFIN.out _ g4 _ (by rw [HRES.out]; simp))
          simp [results, Try.results54, k0, k1, go_sem]
        · cases b2
          · go_wp2_with fail
            obtain ⟨g1, g4⟩ := HW.out 0 0
            generalize (w5.setCell _ _).setCell _ _ = W9 at g1 g4 ⊢
            have k0 := g1.c0
            have k1 := g1.c1
            refine bodyPost_ret (v := .tuple #[.agg #[.int .i64 0, .int .i64 0], .int .i64 7]) ?_ rfl (HFIN.out _ g4 _ (by rw [HRES.out]; simp))
            simp [results, Try.results54, k0, k1, go_sem]
          · go_wp2_with fail
            obtain ⟨g1, g4⟩ := HW.out lo hi
            generalize (w5.setCell _ _).setCell _ _ = W9 at g1 g4 ⊢
            have k0 := g1.c0
            have k1 := g1.c1
            refine bodyPost_ret (v := .tuple #[.agg #[.int .i64 lo, .int .i64 hi], .int .i64 0]) ?_ rfl (HFIN.out _ g4 _ (by rw [HRES.out]; simp))
            simp [results, Try.results54, k0, k1, go_sem]
end Go.Proofs.Ytmmgbofhbnflkaa
