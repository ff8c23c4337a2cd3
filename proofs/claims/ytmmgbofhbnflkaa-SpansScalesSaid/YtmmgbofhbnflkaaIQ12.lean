import Derived.Test.YtmmgbofhbnflkaaIQ11
import Derived.Test.YtmmgbofhbnflkaaYR11
namespace Go.Proofs.Ytmmgbofhbnflkaa
open Go.RowKit

/-! Fractions times both bounds of pi. -/
structure GrM (w : World) (P : Nat → FV → Prop) (L n : Nat) (out : Value) (xs : List FV) (wr : World) : Prop where
  len : xs.length = n
  own : wr.ownsRow w.heap.size 61 3 out n (flatQ xs)
  ok : ∀ (j : Nat) (x : FV), xs[j]? = some x → x.ok wr L ∧ P j x
  bl : Below w.heap.size w wr
theorem GrM.below {w wr w' : World} {P : Nat → FV → Prop} {L n : Nat} {out : Value} {xs : List FV} (h : GrM w P L n out xs wr) (hb : Below wr.heap.size wr w') : GrM w P L n out xs w' :=
  ⟨h.len, h.own.kept (grownBy_of_below hb) (by cases out.ownBlock <;> simp), fun j x hx => ⟨FQ.up (h.ok j x hx).1 hb, (h.ok j x hx).2⟩, h.bl.trans (hb.mono h.bl.size)⟩
theorem news_Q2 (w : World) (x y : FV) : ∀ j u, (FV.cells x ++ FV.cells y)[j]? = some u → (w.alloc (.cells #[.bool x.s, .slice x.A x.n x.c, .slice x.B x.m x.d, .bool y.s, .slice y.A y.n y.c, .slice y.B y.m y.d] 61)).cell? ((⟨w.heap.size, 0, none⟩ : Addr).add j) = some u := by
  intro j u hu
  rw [add_eq, Go.Joins.cell_of_block (World.alloc_heap_new w _) j]
  simpa [FV.cells] using hu
theorem append_quo2 {ops : Array Oper} {rest : List Oper} {o : Oper} {a : Act} {Q : Exit → Act → World → Prop} {wr : World} {base n : Nat} (hgd : o.guard = none) (s x : Operand)
    (ho : o.op = .call { callee := .builtin .append, args := #[s, x], argTypes := #[67, 67] }) {v : Value} {xs : List FV} {z y : FV} (hs : a.eval s = v) (hx : a.eval x = .slice (some ⟨wr.heap.size, 0, none⟩) 2 2)
    (hown : wr.ownsRow base 61 3 v n (flatQ xs)) (hbase : base ≤ wr.heap.size) (hn : n ≤ 1000)
    (h : ∀ v' w', w'.ownsRow base 61 3 v' (n + 2) (flatQ (xs ++ [z, y])) → (wr.alloc (.cells #[.bool z.s, .slice z.A z.n z.c, .slice z.B z.m z.d, .bool y.s, .slice y.A y.n y.c, .slice y.B y.m y.d] 61)).grownBy w' v.ownBlock → wpList Try.prog ops Q rest (a.put o.dst v') w') :
    wpList Try.prog ops Q (o :: rest) a (wr.alloc (.cells #[.bool z.s, .slice z.A z.n z.c, .slice z.B z.m z.d, .bool y.s, .slice y.A y.n y.c, .slice y.B y.m y.d] 61)) := by
  obtain ⟨i0, hi0, hz0, hz1, hz2⟩ := info_parts Try.infoQ
  refine wpList_append_own _ hgd s x 67 ho base 61 i0 _ 3 56 Try.underlying67 hi0 hz0 hz1 hz2 rfl (by decide) v n (flatQ xs) hs (hown.alloc _) ⟨wr.heap.size, 0, none⟩ 2 2 (FV.cells z ++ FV.cells y) hx rfl (news_Q2 wr z y) (by intro u hu; rcases List.mem_append.1 hu with h | h; exact one_Q z u h; exact one_Q y u h) (by unfold maxLen; omega) (by omega) (by rw [World.size_alloc]; omega) ?_
  intro v' w' h2 h3 _
  exact h v' w' (by simp only [flatQ, List.flatMap_append, List.flatMap_cons, List.flatMap_nil, List.append_nil] at h2 ⊢; exact h2) h3
theorem GrM.snoc2 {w wr w' : World} {P : Nat → FV → Prop} {L n : Nat} {out v' : Value} {xs : List FV} {z y : FV} (h : GrM w P L n out xs wr) (hz : z.ok wr L) (hy : y.ok wr L) (hp : P n z) (hp2 : P (n + 1) y)
    (hown : w'.ownsRow w.heap.size 61 3 v' (n + 2) (flatQ (xs ++ [z, y]))) (hg : (wr.alloc (.cells #[.bool z.s, .slice z.A z.n z.c, .slice z.B z.m z.d, .bool y.s, .slice y.A y.n y.c, .slice y.B y.m y.d] 61)).grownBy w' out.ownBlock) : GrM w P L (n + 2) v' (xs ++ [z, y]) w' := by
  have hb : Below wr.heap.size wr (wr.alloc (.cells #[.bool z.s, .slice z.A z.n z.c, .slice z.B z.m z.d, .bool y.s, .slice y.A y.n y.c, .slice y.B y.m y.d] 61)) := (Below.refl _ _).alloc (Nat.le_refl _) _
  have h1 := h.below hb
  have hz1 := FQ.up hz hb
  have hy1 := FQ.up hy hb
  generalize wr.alloc (.cells #[.bool z.s, .slice z.A z.n z.c, .slice z.B z.m z.d, .bool y.s, .slice y.A y.n y.c, .slice y.B y.m y.d] 61) = W at *
  refine ⟨by rw [List.length_append, h.len]; rfl, hown, fun j x hx => ?_, rbelow_grownQ h1.bl h1.own hg⟩
  by_cases hj : j < xs.length
  · rw [List.getElem?_append_left hj] at hx
    exact ⟨FQ.grown (h1.ok j x hx).1 h1.own hg, (h1.ok j x hx).2⟩
  · rw [List.getElem?_append_right (by omega), h.len] at hx
    have hln := h.len
    obtain ⟨d, rfl⟩ : ∃ d, j = n + d := ⟨j - n, by omega⟩
    rw [Nat.add_sub_cancel_left] at hx
    match d, hx with
    | 0, hx =>
      simp at hx
      subst hx
      exact ⟨FQ.grown hz1 h1.own hg, hp⟩
    | 1, hx =>
      simp at hx
      subst hx
      exact ⟨FQ.grown hy1 h1.own hg, hp2⟩
    | d + 2, hx => simp at hx
theorem GrM.post {w wr : World} {P : Nat → FV → Prop} {L n : Nat} {out : Value} {xs : List FV} (h : GrM w P L n out xs wr) (hn : 0 < n) : ∃ (g cap : Nat), out = .slice (some ⟨g, 0, none⟩) n cap ∧ g < wr.heap.size ∧ ∀ (k : Nat) (x : FV), xs[k]? = some x → FvAt wr g k x := by
  obtain ⟨g, cap, rfl, -, hlt⟩ := h.own.form hn
  refine ⟨g, cap, rfl, hlt, fun k x hx => ?_⟩
  obtain ⟨f0, f1, f2⟩ := flatQ_at xs k x hx
  have hc := h.own.cells (g := g) rfl
  refine ⟨?_, ?_, ?_⟩
  · have := hc _ _ f0; rw [add_eq] at this; exact this
  · have := hc _ _ f1; rw [add_eq] at this; exact this
  · have := hc _ _ f2; rw [add_eq] at this; exact this
/-- n-th bound of pi. -/
def piB (n : Nat) : Int := if n = 0 then 3141592653589793238 else 3141592653589793239
def piOne : Nat := 1000000000000000000
/-- z is x times a bound of pi. -/
def PiR (n : Nat) (x : FV) (N : Int) (D : Nat) : Prop := N * ((x.D * piOne : Nat) : Int) = x.N * piB n * (D : Int)
theorem pi_rel {N N1 a : Int} {D D1 b M : Nat} {B : Int} (h1 : D1 ≠ 0) (hov : N1 * (M : Int) = B * (D1 : Int)) (hm : N * ((b * D1 : Nat) : Int) = a * N1 * (D : Int)) : N * ((b * M : Nat) : Int) = a * B * (D : Int) := by
  have p1 : (D1 : Int) ≠ 0 := by omega
  refine Int.eq_of_mul_eq_mul_right p1 ?_
  rw [Int.natCast_mul] at hm ⊢
  have e1 : N * ((b : Int) * (M : Int)) * (D1 : Int) = N * ((b : Int) * (D1 : Int)) * (M : Int) := by
    rw [Int.mul_assoc, Int.mul_assoc, Int.mul_assoc, Int.mul_assoc, Int.mul_comm (M : Int)]
  have e2 : a * B * (D : Int) * (D1 : Int) = a * (B * (D1 : Int)) * (D : Int) := by
    rw [Int.mul_assoc, Int.mul_comm (D : Int), ← Int.mul_assoc, ← Int.mul_assoc]
  rw [e1, hm, e2, ← hov]
  rw [Int.mul_assoc, Int.mul_comm (D : Int), ← Int.mul_assoc, Int.mul_assoc a]
def PiP (xs : List FV) (j : Nat) (z : FV) : Prop := ∃ x, xs[j / 2]? = some x ∧ PiR (j % 2) x z.N z.D
def PiRel (w : World) (xs : List FV) (L : Nat) (ov iv : Value) (wr : World) : Prop := ∃ (i : Nat) (ys : List FV), i ≤ xs.length ∧ iv = .int .i64 (i : Int) ∧ GrM w (PiP xs) L (2 * i) ov ys wr
def PiPost (w : World) (xs : List FV) (L : Nat) (e : Ending) (w' : World) : Prop :=
  ∃ (g cap : Nat) (ys : List FV), e = .returned (.slice (some ⟨g, 0, none⟩) ys.length cap) ∧ ys.length = 2 * xs.length ∧ g < w'.heap.size ∧ (∀ (k : Nat) (y : FV), ys[k]? = some y → FvAt w' g k y ∧ y.ok w' L ∧ PiP xs k y) ∧ Below w.heap.size w w'
theorem Below.id (w : World) : Below w.heap.size w w := Below.refl _ _
theorem Below.one (w : World) (o : Obj) : Below w.heap.size w (w.alloc o) := (Below.refl _ _).alloc (Nat.le_refl _) o
theorem Below.d0 (w : World) : Below w.heap.size w w.drew := (Below.refl _ _).drew
theorem Below.d1 (w : World) (o : Obj) : Below w.heap.size w (w.alloc o).drew := ((Below.refl w.heap.size w).alloc (Nat.le_refl _) o).drew
theorem QB.new_drew (W : World) (neg : Bool) (vn vd : Value) : QB (W.alloc (.cells #[.bool neg, vn, vd] 61)).drew W.heap.size neg vn vd := QB.new W neg vn vd

set_option maxRecDepth 100000 in
set_option maxHeartbeats 8000000 in
theorem pis_any (g cap L : Nat) (xs : List FV) (w : World) (hL : L ≤ 400) (hn : xs.length ≤ 100) (h0 : 0 < xs.length) (hg : g < w.heap.size) (hc : ∀ (k : Nat) (x : FV), xs[k]? = some x → FvAt w g k x) (hx : ∀ x ∈ xs, x.ok w L) :
    Calls Try.prog 64 #[.slice (some ⟨g, 0, none⟩) xs.length cap] w (PiPost w xs (L + 4)) := by
  have HC := Lib.hid hc
  have HX := Lib.hid hx
  have H0 := Lib.hid h0
  have hov1 := fun W => over03_any 3141592653589793238 1000000000000000000 (by omega) (by omega) W
  have hov2 := fun W => over03_any 3141592653589793239 1000000000000000000 (by omega) (by omega) W
  have HOVx := Lib.hid hov1
  have HOVy := Lib.hid hov2
  have hL4 : L + 4 ≤ 500 := by omega
  clear hc hx hov1 hov2 h0
  go_enter Try.func64, Try.ntmps64
  go_wp2_with fail
  go_loopw [3, 4] (fun ov iv wr => PiRel w xs (L + 4) ov iv wr) (fun _ i _ => xs.length - (intOf i).toNat)
  case atStart => exact ⟨0, [], Nat.zero_le _, rfl, ⟨rfl, World.ownsRow_nil _ _ _ _, fun j x hx => by simp at hx, Below.refl _ _⟩⟩
  case round =>
    obtain ⟨i, ys, hi, rfl, hM⟩ := hrel
    have hi0 : (0 : Int) ≤ (i : Int) := Int.natCast_nonneg _
    by_cases hlt : i < xs.length
    · have hlti : (i : Int) < (xs.length : Int) := by omega
      obtain ⟨z, hz⟩ : ∃ z, xs[i]? = some z := ⟨xs[i], List.getElem?_eq_getElem hlt⟩
      have hzf := HX.out z (List.mem_of_getElem? hz)
      have hza := HC.out i z hz
      obtain ⟨zs, zA, zn, zc, zB, zm, zd, zN, zD⟩ := z
      have HZ := Lib.hid hza
      have HZF := Lib.hid hzf
      have HZI := Lib.hid hz
      have HM := Lib.hid hM
      have HB0x := Lib.hid hM.bl
      obtain ⟨c00x, c10x, c20x⟩ := FvAt.up hza hg hM.bl
      simp only at c00x c10x c20x
      have HLT := Lib.hid hlt
      clear hza hzf hz hM hlt
      go_wp2_with fail
      go_region_held3 (fun w' => w'.cell? ⟨g, i * 3, none⟩ = some (.bool zs) ∧ w'.cell? ⟨g, i * 3 + 1, none⟩ = some (.slice zA zn zc) ∧ w'.cell? ⟨g, i * 3 + 2, none⟩ = some (.slice zB zm zd))
        (((try dsimp only); refine ⟨?_, ?_, ?_⟩ <;> first | with_reducible assumption | with_reducible exact kpa0x _ _ _ | with_reducible exact kpa1x _ _ _ | with_reducible exact kpa2x _ _ _ | with_reducible exact kpb0x _ _ _ | with_reducible exact kpb1x _ _ _ | with_reducible exact kpb2x _ _ _ | go_keep))
        (first
          | (go_at_call 51; refine Calls.mono (HOVx.out _) ?_; rintro e w3x ⟨s1x, A1x, l1x, p1x, B1x, m1x, d1x, N1x, D1x, he, hf1x, hP1x, hb3x⟩; subst he; have HP1x := Lib.hid hP1x; clear hP1x; have hb30x := Below.after (by first | with_reducible exact Below.d0 wr | with_reducible exact Below.d1 wr _) hb3x; have hbw3x := Below.after HB0x.out hb30x; obtain ⟨c0ax, c1ax, c2ax⟩ := FvAt.up HZ.out hg hbw3x; simp only at c0ax c1ax c2ax; (try (with_reducible have qax := QB.below (QB.new_drew wr false (.slice none 0 0) (.slice none 0 0)) hb3x (QB.lt (QB.new_drew wr false (.slice none 0 0) (.slice none 0 0))))); (try (have qAx : QB w3x wr.heap.size false (.slice none 0 0) (.slice none 0 0) := qax)); (try clear qax); have HFMx := Lib.hid (fun (W : World) (b : Below w3x.heap.size w3x W) => fmul (FQ.up (FQ.up HZF.out hbw3x) b) (FQ.up hf1x b) hL4))
          | (go_at_call 52; refine Calls.mono (HFMx.out _ (by first | with_reducible exact Below.id _ | with_reducible exact Below.one _ _)) ?_; rintro e w4x ⟨s3x, A3x, l3x, p3x, B3x, m3x, d3x, N3x, D3x, he, hf3x, hP3x, hb4x⟩; subst he; have HP3x := Lib.hid hP3x; clear hP3x; have hb40x := Below.after (Below.after hb30x (by first | with_reducible exact Below.id _ | with_reducible exact Below.one _ _)) hb4x; have hbw4x := Below.after HB0x.out hb40x; obtain ⟨c0bx, c1bx, c2bx⟩ := FvAt.up HZ.out hg hbw4x; simp only at c0bx c1bx c2bx; (try (with_reducible have qBx := QB.below qAx hb4x (QB.lt qAx))); (try (with_reducible have qBx := QB.below (QB.new w3x false (.slice none 0 0) (.slice none 0 0)) hb4x (QB.lt (QB.new w3x false (.slice none 0 0) (.slice none 0 0))))); (try have r0x := QB.c0 qBx); (try have r1x := QB.c1 qBx); (try have r2x := QB.c2 qBx); (try have r3x := QB.fr qBx 0); (try have r4x := QB.fr qBx 1); (try have r5x := QB.fr qBx 2); have hsax : g ≠ wr.heap.size := Nat.ne_of_lt (Nat.lt_of_lt_of_le hg HB0x.out.size); have hsbx : g ≠ w3x.heap.size := Nat.ne_of_lt (Nat.lt_of_lt_of_le hg hbw3x.size); have kpa0x := cell_other3 (k := wr.heap.size) c0bx hsax; have kpb0x := cell_other3 (k := w3x.heap.size) c0bx hsbx; have kpa1x := cell_other3 (k := wr.heap.size) c1bx hsax; have kpb1x := cell_other3 (k := w3x.heap.size) c1bx hsbx; have kpa2x := cell_other3 (k := wr.heap.size) c2bx hsax; have kpb2x := cell_other3 (k := w3x.heap.size) c2bx hsbx; clear hsax hsbx))
      all_goals
        have hPIx : PiR 0 ⟨zs, zA, zn, zc, zB, zm, zd, zN, zD⟩ N3x D3x := pi_rel hf1x.ne HP1x.out HP3x.out
        have HPIx := Lib.hid hPIx
        clear hPIx HP1x HP3x kpa0x kpb0x kpa1x kpb1x kpa2x kpb2x c0ax c0bx c1ax c1bx c2ax c2bx c00x c10x c20x
        first
          | (have hq9x := QB.write qBx s3x (.slice A3x l3x p3x) (.slice B3x m3x d3x)
             have hf9x := FQ.wrote hf3x qBx s3x (.slice A3x l3x p3x) (.slice B3x m3x d3x)
             have hb9x := wroteQ_below (g := wr.heap.size) hb40x (Nat.le_refl _) s3x (.slice A3x l3x p3x) (.slice B3x m3x d3x)
             simp only [wroteQ] at hq9x hf9x hb9x
             clear qAx qBx r0x r1x r2x r3x r4x r5x
             generalize ((w4x.setCell ⟨wr.heap.size, 0, none⟩ _).setCell ⟨wr.heap.size, 1, none⟩ _).setCell ⟨wr.heap.size, 2, none⟩ _ = W9x at *
             have HQ9x := Lib.hid (show QB W9x wr.heap.size s3x (.slice A3x l3x p3x) (.slice B3x m3x d3x) from hq9x))
          | (have hq9x := QB.write qBx s3x (.slice A3x l3x p3x) (.slice B3x m3x d3x)
             have hf9x := FQ.wrote hf3x qBx s3x (.slice A3x l3x p3x) (.slice B3x m3x d3x)
             have hb9x := wroteQ_below (g := w3x.heap.size) hb40x hb30x.size s3x (.slice A3x l3x p3x) (.slice B3x m3x d3x)
             simp only [wroteQ] at hq9x hf9x hb9x
             clear qBx r0x r1x r2x r3x r4x r5x
             generalize ((w4x.setCell ⟨w3x.heap.size, 0, none⟩ _).setCell ⟨w3x.heap.size, 1, none⟩ _).setCell ⟨w3x.heap.size, 2, none⟩ _ = W9x at *
             have HQ9x := Lib.hid (show QB W9x w3x.heap.size s3x (.slice A3x l3x p3x) (.slice B3x m3x d3x) from hq9x))
          | (have hq9x := QB.new w4x s3x (.slice A3x l3x p3x) (.slice B3x m3x d3x)
             have hf9x := FQ.up hf3x (Below.one w4x (.cells #[.bool s3x, .slice A3x l3x p3x, .slice B3x m3x d3x] 61))
             have hb9x := Below.after hb40x (Below.one w4x (.cells #[.bool s3x, .slice A3x l3x p3x, .slice B3x m3x d3x] 61))
             generalize w4x.alloc _ = W9x at *
             have HQ9x := Lib.hid (show QB W9x w4x.heap.size s3x (.slice A3x l3x p3x) (.slice B3x m3x d3x) from hq9x))
        have HF9x := Lib.hid hf9x
        have HB9x := Lib.hid hb9x
        have HBWx := Lib.hid (Below.after HB0x.out hb9x)
        have hq0x := HQ9x.out.c0
        have hq1x := HQ9x.out.c1
        have hq2x := HQ9x.out.c2
        clear hq9x hf9x hb9x hf1x hf3x hb3x hb30x hbw3x hb4x hb40x hbw4x HFMx
        have HB0y := HBWx
        obtain ⟨c00y, c10y, c20y⟩ := FvAt.up HZ.out hg HBWx.out
        simp only at c00y c10y c20y
        go_wp2_with fail
        go_region_held3 (fun w' => w'.cell? ⟨g, i * 3, none⟩ = some (.bool zs) ∧ w'.cell? ⟨g, i * 3 + 1, none⟩ = some (.slice zA zn zc) ∧ w'.cell? ⟨g, i * 3 + 2, none⟩ = some (.slice zB zm zd))
          (((try dsimp only); refine ⟨?_, ?_, ?_⟩ <;> first | with_reducible assumption | with_reducible exact kpa0y _ _ _ | with_reducible exact kpa1y _ _ _ | with_reducible exact kpa2y _ _ _ | with_reducible exact kpb0y _ _ _ | with_reducible exact kpb1y _ _ _ | with_reducible exact kpb2y _ _ _ | go_keep))
          (first
            | (go_at_call 51; refine Calls.mono (HOVy.out _) ?_; rintro e w3y ⟨s1y, A1y, l1y, p1y, B1y, m1y, d1y, N1y, D1y, he, hf1y, hP1y, hb3y⟩; subst he; have HP1y := Lib.hid hP1y; clear hP1y; have hb30y := Below.after (by first | with_reducible exact Below.d0 W9x | with_reducible exact Below.d1 W9x _) hb3y; have hbw3y := Below.after HB0y.out hb30y; obtain ⟨c0ay, c1ay, c2ay⟩ := FvAt.up HZ.out hg hbw3y; simp only at c0ay c1ay c2ay; (try (with_reducible have qay := QB.below (QB.new_drew W9x false (.slice none 0 0) (.slice none 0 0)) hb3y (QB.lt (QB.new_drew W9x false (.slice none 0 0) (.slice none 0 0))))); (try (have qAy : QB w3y W9x.heap.size false (.slice none 0 0) (.slice none 0 0) := qay)); (try clear qay); have HFMy := Lib.hid (fun (W : World) (b : Below w3y.heap.size w3y W) => fmul (FQ.up (FQ.up HZF.out hbw3y) b) (FQ.up hf1y b) hL4))
            | (go_at_call 52; refine Calls.mono (HFMy.out _ (by first | with_reducible exact Below.id _ | with_reducible exact Below.one _ _)) ?_; rintro e w4y ⟨s3y, A3y, l3y, p3y, B3y, m3y, d3y, N3y, D3y, he, hf3y, hP3y, hb4y⟩; subst he; have HP3y := Lib.hid hP3y; clear hP3y; have hb40y := Below.after (Below.after hb30y (by first | with_reducible exact Below.id _ | with_reducible exact Below.one _ _)) hb4y; have hbw4y := Below.after HB0y.out hb40y; obtain ⟨c0by, c1by, c2by⟩ := FvAt.up HZ.out hg hbw4y; simp only at c0by c1by c2by; (try (with_reducible have qBy := QB.below qAy hb4y (QB.lt qAy))); (try (with_reducible have qBy := QB.below (QB.new w3y false (.slice none 0 0) (.slice none 0 0)) hb4y (QB.lt (QB.new w3y false (.slice none 0 0) (.slice none 0 0))))); (try have r0y := QB.c0 qBy); (try have r1y := QB.c1 qBy); (try have r2y := QB.c2 qBy); (try have r3y := QB.fr qBy 0); (try have r4y := QB.fr qBy 1); (try have r5y := QB.fr qBy 2); have hsay : g ≠ W9x.heap.size := Nat.ne_of_lt (Nat.lt_of_lt_of_le hg HB0y.out.size); have hsby : g ≠ w3y.heap.size := Nat.ne_of_lt (Nat.lt_of_lt_of_le hg hbw3y.size); have kpa0y := cell_other3 (k := W9x.heap.size) c0by hsay; have kpb0y := cell_other3 (k := w3y.heap.size) c0by hsby; have kpa1y := cell_other3 (k := W9x.heap.size) c1by hsay; have kpb1y := cell_other3 (k := w3y.heap.size) c1by hsby; have kpa2y := cell_other3 (k := W9x.heap.size) c2by hsay; have kpb2y := cell_other3 (k := w3y.heap.size) c2by hsby; clear hsay hsby))
        all_goals
          have hPIy : PiR 1 ⟨zs, zA, zn, zc, zB, zm, zd, zN, zD⟩ N3y D3y := pi_rel hf1y.ne HP1y.out HP3y.out
          have HPIy := Lib.hid hPIy
          clear hPIy HP1y HP3y kpa0y kpb0y kpa1y kpb1y kpa2y kpb2y c0ay c0by c1ay c1by c2ay c2by c00y c10y c20y
          first
            | (have hq9y := QB.write qBy s3y (.slice A3y l3y p3y) (.slice B3y m3y d3y)
               have hf9y := FQ.wrote hf3y qBy s3y (.slice A3y l3y p3y) (.slice B3y m3y d3y)
               have hb9y := wroteQ_below (g := W9x.heap.size) hb40y (Nat.le_refl _) s3y (.slice A3y l3y p3y) (.slice B3y m3y d3y)
               simp only [wroteQ] at hq9y hf9y hb9y
               clear qAy qBy r0y r1y r2y r3y r4y r5y
               generalize ((w4y.setCell ⟨W9x.heap.size, 0, none⟩ _).setCell ⟨W9x.heap.size, 1, none⟩ _).setCell ⟨W9x.heap.size, 2, none⟩ _ = W9y at *
               have HQ9y := Lib.hid (show QB W9y W9x.heap.size s3y (.slice A3y l3y p3y) (.slice B3y m3y d3y) from hq9y))
            | (have hq9y := QB.write qBy s3y (.slice A3y l3y p3y) (.slice B3y m3y d3y)
               have hf9y := FQ.wrote hf3y qBy s3y (.slice A3y l3y p3y) (.slice B3y m3y d3y)
               have hb9y := wroteQ_below (g := w3y.heap.size) hb40y hb30y.size s3y (.slice A3y l3y p3y) (.slice B3y m3y d3y)
               simp only [wroteQ] at hq9y hf9y hb9y
               clear qBy r0y r1y r2y r3y r4y r5y
               generalize ((w4y.setCell ⟨w3y.heap.size, 0, none⟩ _).setCell ⟨w3y.heap.size, 1, none⟩ _).setCell ⟨w3y.heap.size, 2, none⟩ _ = W9y at *
               have HQ9y := Lib.hid (show QB W9y w3y.heap.size s3y (.slice A3y l3y p3y) (.slice B3y m3y d3y) from hq9y))
            | (have hq9y := QB.new w4y s3y (.slice A3y l3y p3y) (.slice B3y m3y d3y)
               have hf9y := FQ.up hf3y (Below.one w4y (.cells #[.bool s3y, .slice A3y l3y p3y, .slice B3y m3y d3y] 61))
               have hb9y := Below.after hb40y (Below.one w4y (.cells #[.bool s3y, .slice A3y l3y p3y, .slice B3y m3y d3y] 61))
               generalize w4y.alloc _ = W9y at *
               have HQ9y := Lib.hid (show QB W9y w4y.heap.size s3y (.slice A3y l3y p3y) (.slice B3y m3y d3y) from hq9y))
          have HF9y := Lib.hid hf9y
          have HB9y := Lib.hid hb9y
          have HBWy := Lib.hid (Below.after HB0y.out hb9y)
          have hq0y := HQ9y.out.c0
          have hq1y := HQ9y.out.c1
          have hq2y := HQ9y.out.c2
          clear hq9y hf9y hb9y hf1y hf3y hb3y hb30y hbw3y hb4y hb40y hbw4y HFMy
          have hq3 := HQ9x.out.below HB9y.out HQ9x.out.lt
          have x0 := hq3.c0
          have x1 := hq3.c1
          have x2 := hq3.c2
          have HMW := Lib.hid ((HM.out.below HB9x.out).below HB9y.out)
          have HZ1 := Lib.hid (show FV.ok ⟨s3x, A3x, l3x, p3x, B3x, m3x, d3x, N3x, D3x⟩ W9y (L + 4) from FQ.up HF9x.out HB9y.out)
          have HZ2 := Lib.hid (show FV.ok ⟨s3y, A3y, l3y, p3y, B3y, m3y, d3y, N3y, D3y⟩ W9y (L + 4) from HF9y.out)
          have hown := HMW.out.own
          have HSZ := Lib.hid HMW.out.bl.size
          clear hq3 hq0x hq1x hq2x
          go_wp2_with (at_builtin; refine append_quo2 rfl (.tmp 33) (.tmp 36) rfl (xs := ys) (z := ⟨s3x, A3x, l3x, p3x, B3x, m3x, d3x, N3x, D3x⟩) (y := ⟨s3y, A3y, l3y, p3y, B3y, m3y, d3y, N3y, D3y⟩) rfl rfl hown HSZ.out (by omega) ?_; intro v' w10 hown10 hgr10)
          have hfin := GrM.snoc2 HMW.out HZ1.out HZ2.out ⟨_, by rw [show 2 * i / 2 = i by omega]; exact HZI.out, by rw [show 2 * i % 2 = 0 by omega]; exact HPIx.out⟩ ⟨_, by rw [show (2 * i + 1) / 2 = i by omega]; exact HZI.out, by rw [show (2 * i + 1) % 2 = 1 by omega]; exact HPIy.out⟩ hown10 hgr10
          go_roundw
          case rel => exact ⟨i + 1, _, by have := HLT.out; omega, by go_num, by rw [show 2 * (i + 1) = 2 * i + 2 by omega]; exact hfin⟩
          case measure => have := HLT.out; simp [intOf]; omega
    · obtain rfl : i = xs.length := by omega
      have hpost : PiPost w xs (L + 4) (.returned u3) wr := by
        obtain ⟨gg, cc, he, hgg, hat⟩ := hM.post (by have := H0.out; omega)
        exact ⟨gg, cc, ys, by rw [he, hM.len], hM.len, hgg, fun k y hy => ⟨hat k y hy, hM.ok k y hy⟩, hM.bl⟩
      have HP := Lib.hid hpost
      clear hpost hM
      go_wp2_with fail
      go_ret
      exact HP.out
end Go.Proofs.Ytmmgbofhbnflkaa
