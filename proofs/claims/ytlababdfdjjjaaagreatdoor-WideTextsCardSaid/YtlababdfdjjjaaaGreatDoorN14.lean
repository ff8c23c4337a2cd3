import Derived.Test.YtlababdfdjjjaaaGreatDoorN13
import Derived.RegionIn
namespace Go.Proofs.YtlababdfdjjjaaaGreatDoor
open Go.RowKit Go.Shelf

attribute [local go_sem] Oper.semAt_some

theorem One.new (W : World) (t : TypeId) (v : Value) : One (W.alloc (.cells #[v] t)) W.heap.size t v := World.alloc_heap_new W _
theorem One.alloc {W : World} {g : Nat} {t : TypeId} {v : Value} (h : One W g t v) (o : Obj) : One (W.alloc o) g t v := by
  have hlt := (Array.getElem?_eq_some_iff.1 (show W.heap[g]? = some _ from h)).1
  exact (((Below.refl (g + 1) W).alloc hlt o).block g (Nat.lt_succ_self g)).trans h
theorem One.set {W : World} {g : Nat} {t : TypeId} {v : Value} (h : One W g t v) (u : Value) : One (W.setCell ⟨g, 0, none⟩ u) g t u := by
  have e : W.heap[g]? = some (.cells #[v] t (0, 0)) := h
  show (W.setCell _ _).heap[g]? = _
  simp [World.setCell, Array.getElem?_modify, e]
theorem heap_other {W : World} {g k i : Nat} (u : Value) (hne : g ≠ k) : (W.setCell ⟨k, i, none⟩ u).heap[g]? = W.heap[g]? := by
  simp [World.setCell, Array.getElem?_modify, hne.symm]
theorem One.other {W : World} {g k i : Nat} {t : TypeId} {v : Value} (h : One W g t v) (u : Value) (hne : g ≠ k) : One (W.setCell ⟨k, i, none⟩ u) g t v := (heap_other u hne).trans h
theorem Row.other {W : World} {g k i : Nat} {L : List Nat} (h : Row W g L) (u : Value) (hne : g ≠ k) : Row (W.setCell ⟨k, i, none⟩ u) g L := (heap_other u hne).trans h

/-- In a round an operation that defers nothing is carried out as everywhere. -/
def noDefer (o : Oper) : Bool := match o.op with | .defer _ => false | _ => true
theorem noDefer_ne {o : Oper} (h : noDefer o = true) : ∀ c, o.op ≠ .defer c := by
  intro c e
  unfold noDefer at h
  rw [e] at h
  cases h
theorem op_round {F : Fence} {n l : Nat} {P : Program} {o : Oper} {a : Act} {w : World} {K : Act → World → Prop} {Q : Exit → Act → World → Prop} (hd : ∀ c, o.op ≠ .defer c) (h : o.wpIn F n P a w K Q) : o.wpIn (F.inRound l) n P a w K Q := by
  unfold Oper.wpIn at *
  refine ⟨h.1, ?_⟩
  have hh := h.2
  rw [Oper.semAt_eq _ _ _ hd] at hh ⊢
  generalize (execOp a.eval o).run P w = r at *
  cases r with
  | ok x w' => cases x <;> exact hh
  | halt x w' => cases x <;> exact hh
theorem any_round {F : Fence} {n l : Nat} {P : Program} {md : Region.Mode} {ops : Array Oper} {Q : Exit → Act → World → Prop} (hd : ops.all noDefer = true) :
    ∀ (k : Nat) (listed : Array Bool) (a : Act) (w : World), wpAnyIn F n P md ops Q k listed a w → wpAnyIn (F.inRound l) n P md ops Q k listed a w
  | 0, _, _, _, h => h
  | k + 1, listed, a, w, h => by
    refine ⟨h.1, fun i hi => ?_⟩
    have hh := h.2 i hi
    unfold wpOpIn at *
    cases ho : ops[i]? with
    | none =>
      rw [ho] at hh
      exact any_round hd k _ _ _ hh
    | some o =>
      rw [ho] at hh
      have hod : noDefer o = true := Array.all_eq_true'.1 hd o (Array.mem_of_getElem? ho)
      simp only at hh ⊢
      split
      · rename_i hw
        rw [if_pos hw] at hh
        exact Oper.wpIn_mono (fun a w => any_round hd k _ a w) (op_round (noDefer_ne hod) hh)
      · rename_i hw
        rw [if_neg hw] at hh
        exact ⟨hh.1, any_round hd k _ _ _ hh.2⟩

/-- One limb of a number is divided. -/
def lstep (L : List Nat) (b : Nat) (s : List Nat × Nat) (i : Fin L.length) : List Nat × Nat := (s.1.set i.1 ((L[i.1] + LB * s.2) / b), (L[i.1] + LB * s.2) % b)
def lsteps (L : List Nat) (b : Nat) (pre : List (Fin L.length)) : List Nat × Nat := pre.foldl (lstep L b) (List.replicate L.length 0, 0)
theorem lsteps_snoc (L : List Nat) (b : Nat) (pre : List (Fin L.length)) (i : Fin L.length) : lsteps L b (pre ++ [i]) = lstep L b (lsteps L b pre) i := by
  unfold lsteps; rw [List.foldl_append]; rfl
theorem limb_quo {x r b : Nat} (hx : x < LB) (hr : r < b) : (x + LB * r) / b < LB := by
  rw [Nat.div_lt_iff_lt_mul (by omega), Nat.mul_comm LB b]
  exact step_lt hr hx
theorem fold_bk {L : List Nat} {b : Nat} (hL : okL L) : ∀ (k : Nat) (hk : k ≤ L.length) (Q : List Nat) (r : Nat), okL Q → k + Q.length = L.length → r < b →
    ∃ (Q' : List Nat) (r' : Nat), (bk L k hk).foldl (lstep L b) (List.replicate k 0 ++ Q, r) = (Q', r') ∧ Q'.length = L.length ∧ okL Q' ∧ r' < b ∧ val Q' * b + r' = val (L.take k) + LB ^ k * (val Q * b + r)
  | 0, _, Q, r, hQ, hl, hr => ⟨Q, r, rfl, by omega, hQ, hr, by simp [val]⟩
  | k + 1, hk, Q, r, hQ, hl, hr => by
    obtain ⟨x, hxx⟩ : ∃ x, x = L[k]'hk := ⟨_, rfl⟩
    have hx : L[k]? = some x := by rw [hxx]; exact List.getElem?_eq_getElem hk
    have hxB : x < LB := hL x (List.mem_of_getElem? hx)
    have hq := limb_quo hxB hr
    have hb0 : 0 < b := by omega
    obtain ⟨Q', r', e, h1, h2, h3, h4⟩ := fold_bk hL k (Nat.le_of_succ_le hk) ((x + LB * r) / b :: Q) ((x + LB * r) % b) (okL_cons.2 ⟨hq, hQ⟩) (by simp; omega) (Nat.mod_lt _ hb0)
    refine ⟨Q', r', ?_, h1, h2, h3, ?_⟩
    · rw [← e]
      show (bk L k _).foldl (lstep L b) (lstep L b (List.replicate (k + 1) 0 ++ Q, r) ⟨k, hk⟩) = _
      congr 1
      unfold lstep
      simp only [← hxx]
      rw [List.replicate_succ', List.append_assoc, List.set_append, if_neg (by simp), List.length_replicate, Nat.sub_self]
      rfl
    · have p1 : LB ^ (k + 1) = LB ^ k * LB := Nat.pow_succ ..
      have hv : val ((x + LB * r) / b :: Q) = (x + LB * r) / b + LB * val Q := rfl
      rw [h4, hv, take_val hx, p1]
      have hdm := Nat.div_add_mod (x + LB * r) b
      generalize (x + LB * r) / b = q at *
      generalize (x + LB * r) % b = t at *
      generalize val Q = V at *
      generalize val (L.take k) = U at *
      generalize LB ^ k = z at *
      clear h4 hv hq h1 h2 h3 e p1 hxB hx hxx hL
      generalize LB = B at *
      have h5 : (q + B * V) * b + t = x + B * (V * b + r) := by grind
      rw [h5]; grind
theorem lsteps_all {L : List Nat} {b : Nat} (hL : okL L) (hb : 0 < b) : (lsteps L b (bk L L.length (Nat.le_refl _))).1.length = L.length ∧ okL (lsteps L b (bk L L.length (Nat.le_refl _))).1 ∧
    val (lsteps L b (bk L L.length (Nat.le_refl _))).1 = val L / b ∧ (lsteps L b (bk L L.length (Nat.le_refl _))).2 = val L % b := by
  obtain ⟨Q', r', e, h1, h2, h3, h4⟩ := fold_bk (b := b) hL L.length (Nat.le_refl _) [] 0 okL_nil (by simp) hb
  rw [List.append_nil] at e
  have e' : lsteps L b (bk L L.length (Nat.le_refl _)) = (Q', r') := e
  rw [e']
  have h5 : val L = r' + b * val Q' := by
    rw [List.take_length] at h4
    simp only [val, Nat.zero_mul, Nat.add_zero, Nat.mul_zero] at h4
    rw [← h4, Nat.mul_comm]; omega
  refine ⟨h1, h2, ?_, ?_⟩
  · rw [h5, Nat.add_mul_div_left _ _ hb, Nat.div_eq_of_lt h3]; simp
  · rw [h5, Nat.add_mul_mod_self_left, Nat.mod_eq_of_lt h3]

def LI (w : World) (L : List Nat) (b : Nat) (pre : List (Fin L.length)) (W : World) : Prop :=
  ((lsteps L b pre).1.length = L.length ∧ okL (lsteps L b pre).1 ∧ (lsteps L b pre).2 < b) ∧ (Row W (w.heap.size + 1) (lsteps L b pre).1 ∧ One W w.heap.size 64 (.int .u32 (b : Int)) ∧
    One W (w.heap.size + 1 + 1) 24 (.slice (some ⟨w.heap.size + 1, 0, none⟩) L.length L.length) ∧ One W (w.heap.size + 1 + 1 + 1) 22 (.int .u64 ((lsteps L b pre).2 : Int))) ∧ Below w.heap.size w W
theorem LI_own (w : World) (L : List Nat) (b B : Nat) (hB : w.heap.size ≤ B) : OwnFrom B (LI w L b) := by
  intro pre W W' row ⟨h0, ⟨h1, h2, h3, h4⟩, h5⟩ hg hr
  have k : ∀ {g : Nat} {o : Obj}, W.heap[g]? = some o → o.isCells = true → W'.heap[g]? = some o := fun h hc => (grownBy_keeps_cells hg (fun r er => (hr r er).2) h hc).trans h
  exact ⟨h0, ⟨k h1 rfl, k h2 rfl, k h3 rfl, k h4 rfl⟩, h5.grown hg h5.size (fun j e => Nat.le_trans hB (hr j e).1)⟩

theorem Lim.at {W : World} {B B' g o n cap : Nat} {l : List Nat} (h : Lim W B (.slice (some ⟨g, o, none⟩) n cap) l) (hg : g < B') : Lim W B' (.slice (some ⟨g, o, none⟩) n cap) l := by
  obtain ⟨⟨A', cap', e, hc, hh⟩, ho⟩ := h
  cases e
  exact ⟨⟨_, _, rfl, hc, fun hne => by obtain ⟨g', o', e', _, hx⟩ := hh hne; cases e'; exact ⟨g, o, rfl, hg, hx⟩⟩, ho⟩

set_option maxRecDepth 100000 in
set_option maxHeartbeats 2000000 in
theorem limb_in (n : Nat) (hn : 3 ≤ n) (va : Value) (m b : Nat) (w : World) (ha : Num w w.heap.size va m) (hla : (dg m).length ≤ 100000000) (hb0 : 0 < b) (hb : b < LB) :
    CallsIn Fence.wide n Tryz.prog 78 #[va, .int .u32 (b : Int)] w fun e w' => ∃ v', e = .returned (.tuple #[v', .int .u32 ((m % b : Nat) : Int)]) ∧ Num w' w'.heap.size v' (m / b) ∧ Below w.heap.size w w' := by
  obtain ⟨A, capa, rfl, hcapa⟩ := ha.form
  have h1 : 1 ≤ n := by omega
  have hA : Lim w w.heap.size (.slice A (dg m).length capa) (dg m) := ha
  have ho := ok_dg m
  obtain ⟨L, hL⟩ : ∃ L, L = dg m := ⟨_, rfl⟩
  have hv : val L = m := by rw [hL, val_dg]
  rw [← hL] at hA hla hcapa ho ⊢
  clear hL ha
  subst hv
  have hmk := fun W => mkU L.length (by omega) W
  have HA := Lib.hid hA
  have HO := Lib.hid ho
  have HB := Lib.hid hb
  have hb1 : b < 4294967296 := hb
  clear hA ho hb
  refine callsIn_of_wp_marks Tryz.func78 rfl trivial ?_ rfl
  simp only [Tryz.ntmps78, List.size_toArray, List.length_cons, List.length_nil, Nat.reduceAdd, Nat.reduceSub, Array.replicate_succ, Array.replicate_zero, List.push_toArray, List.append_toArray, List.nil_append, List.cons_append]
  gi_wp2_with (refine ⟨trivial, ?_⟩; gi_at_call 114; refine (back_in (n - 1) _ ⟨_, _, _, rfl⟩ _).mono ?_; rintro e w' ⟨rfl, rfl⟩)
  have hsz : (((((w.alloc (Obj.cells #[Value.int IntKind.u32 ↑b] 64)).alloc (Obj.cells (zeros L.length).toArray 64)).alloc
              (Obj.cells #[Value.slice (some { block := w.heap.size + 1, off := 0 }) L.length L.length] 24)).alloc
          (Obj.cells #[Value.int IntKind.u64 0] 22)).alloc (Obj.cells #[Value.slice A L.length capa] 24)).heap.size = w.heap.size + 5 := by simp
  have hI0 : LI w L b [] (((((w.alloc (Obj.cells #[Value.int IntKind.u32 ↑b] 64)).alloc (Obj.cells (zeros L.length).toArray 64)).alloc
              (Obj.cells #[Value.slice (some { block := w.heap.size + 1, off := 0 }) L.length L.length] 24)).alloc
          (Obj.cells #[Value.int IntKind.u64 0] 22)).alloc (Obj.cells #[Value.slice A L.length capa] 24)) := by
    refine ⟨⟨by simp [lsteps], okL_zero _, hb0⟩, ⟨?_, ?_, ?_, ?_⟩, ?_⟩
    · have := Row.new (w.alloc (Obj.cells #[Value.int IntKind.u32 ↑b] 64)) L.length
      rw [World.size_alloc] at this
      exact ((this.alloc _).alloc _).alloc _
    · exact ((((One.new w _ _).alloc _).alloc _).alloc _).alloc _
    · have := One.new ((w.alloc (Obj.cells #[Value.int IntKind.u32 ↑b] 64)).alloc (Obj.cells (zeros L.length).toArray 64)) 24 (Value.slice (some { block := w.heap.size + 1, off := 0 }) L.length L.length)
      rw [World.size_alloc, World.size_alloc] at this
      exact (this.alloc _).alloc _
    · have := One.new (((w.alloc (Obj.cells #[Value.int IntKind.u32 ↑b] 64)).alloc (Obj.cells (zeros L.length).toArray 64)).alloc
              (Obj.cells #[Value.slice (some { block := w.heap.size + 1, off := 0 }) L.length L.length] 24)) 22 (Value.int IntKind.u64 0)
      rw [World.size_alloc, World.size_alloc, World.size_alloc] at this
      exact this.alloc _
    · exact (((((Below.refl _ w).alloc (Nat.le_refl _) _).alloc (by simp) _).alloc (by simp; omega) _).alloc (by simp; omega) _).alloc (by simp; omega) _
  have hbn : One (((((w.alloc (Obj.cells #[Value.int IntKind.u32 ↑b] 64)).alloc (Obj.cells (zeros L.length).toArray 64)).alloc
              (Obj.cells #[Value.slice (some { block := w.heap.size + 1, off := 0 }) L.length L.length] 24)).alloc
          (Obj.cells #[Value.int IntKind.u64 0] 22)).alloc (Obj.cells #[Value.slice A L.length capa] 24)) (w.heap.size + 1 + 1 + 1 + 1) 24 (.slice A L.length capa) := by
    have := One.new ((((w.alloc (Obj.cells #[Value.int IntKind.u32 ↑b] 64)).alloc (Obj.cells (zeros L.length).toArray 64)).alloc
              (Obj.cells #[Value.slice (some { block := w.heap.size + 1, off := 0 }) L.length L.length] 24)).alloc (Obj.cells #[Value.int IntKind.u64 0] 22)) 24 (Value.slice A L.length capa)
    rw [World.size_alloc, World.size_alloc, World.size_alloc, World.size_alloc] at this
    exact this
  generalize (((((w.alloc (Obj.cells #[Value.int IntKind.u32 ↑b] 64)).alloc (Obj.cells (zeros L.length).toArray 64)).alloc
              (Obj.cells #[Value.slice (some { block := w.heap.size + 1, off := 0 }) L.length L.length] 24)).alloc
          (Obj.cells #[Value.int IntKind.u64 0] 22)).alloc (Obj.cells #[Value.slice A L.length capa] 24)) = W0 at *
  have hW0 : w.heap.size + 4 < W0.heap.size := by omega
  refine wpIn_rangeFunc_ownF rfl h1 (gf := 136) (lb := #[.pointer (some ⟨w.heap.size + 1 + 1 + 1 + 1, 0, none⟩)]) rfl trivial (enters_of Tryz.func136 (by kernel_rfl) rfl)
    (back_stops (n - 1) (by omega) (w.heap.size + 1 + 1 + 1 + 1) w.heap.size L (.slice A L.length capa) (by omega) W0 (by omega) (by omega) hbn (HA.out.below hI0.2.2)) KpB.trans
    (fun W l o o' hl ho hc hw => ⟨belowK_b (by omega) W l o o' hl ho hc hw, ?kb⟩) (Below.refl _ _) (fun _ => rfl)
    (LI w L b) (fun _ _ _ => False) (LI_own w L b _ (by omega)) (fun _ _ _ _ _ h _ _ => h) hI0
    (fun x => { tmps := #[Value.slice A L.length capa, Value.int IntKind.u32 ↑b, undef,
          Value.pointer (some { block := w.heap.size, off := 0 }), Value.slice none 0 0, Value.int IntKind.u32 0,
          Value.pointer (some { block := w.heap.size + 1 + 1, off := 0 }),
          Value.pointer (some { block := w.heap.size + 1 + 1 + 1, off := 0 }), .int .i64 (x.1 : Int), .int .u32 ((L[x.1] : Nat) : Int), undef,
          Value.slice A L.length capa, Value.int IntKind.i64 ↑L.length,
          Value.slice (some { block := w.heap.size + 1, off := 0 }) L.length L.length, Value.slice A L.length capa,
          Value.func (Fn.func 136) #[] #[Value.pointer (some { block := w.heap.size + 1 + 1 + 1 + 1, off := 0 })],
          .int .i64 (x.1 : Int), .int .u32 ((L[x.1] : Nat) : Int), undef, undef, undef, undef, undef, undef, undef, undef, undef, undef, undef, undef, undef,
          undef, undef, undef, undef, undef, undef, undef, undef], defers := [] }) ?assign ?body ?done ?stop
  case kb =>
    have hlt : w.heap.size + 1 + 1 + 1 + 1 < l := by omega
    exact (grownBy_putObj' W l o').block _ (by have := (Array.getElem?_eq_some_iff.1 ho).1; omega) (by intro e; cases e; omega)
  case assign =>
    intro l x W K hK
    simp only [encB]
    gi_wp2
    exact hK
  case body =>
    rintro l pre x W ⟨⟨hl1, hl2, hl3⟩, ⟨k1, k2, k3, k4⟩, hB⟩ hlt
    have hst := lsteps_snoc L b pre x
    obtain ⟨j, hj⟩ := x
    simp only [lstep] at hst
    obtain ⟨y, hy⟩ : ∃ y, y = L[j]'hj := ⟨_, rfl⟩
    have hyB : y < 4294967296 := by rw [hy]; exact HO.out _ (List.getElem_mem hj)
    simp only [← hy] at hst ⊢
    obtain ⟨Q, hQ⟩ : ∃ Q, Q = (lsteps L b pre).1 := ⟨_, rfl⟩
    obtain ⟨r, hr⟩ : ∃ r, r = (lsteps L b pre).2 := ⟨_, rfl⟩
    rw [← hQ, ← hr] at hst
    rw [← hQ] at hl1 hl2 k1
    rw [← hr] at hl3 k4
    have hrB : r < 4294967296 := by omega
    have hor := or64_join' (V := y) (x := r) hyB hrB
    have hq := limb_quo (x := y) (r := r) (b := b) hyB hl3
    have hmod := Nat.mod_lt (y + LB * r) hb0
    obtain ⟨X, hX⟩ : ∃ X, X = y + LB * r := ⟨_, rfl⟩
    rw [← hX] at hor hst hq hmod
    have c1 := k4.cell
    have c2 := k3.cell
    have c3 := k2.cell
    have c4 := k4.frozen
    have c5 := k1.cell (i := j) (x := Q[j]'(by omega)) (List.getElem?_eq_getElem (by omega))
    have c6 := k1.frozen j
    have hbne : ((b : Int) == 0) = false := by simp; omega
    have hlt1 : (j : Int) < (L.length : Int) := by omega
    have hlt0 : (0 : Int) ≤ (j : Int) := Int.natCast_nonneg _
    have HST := Lib.hid hst
    have HX := Lib.hid hX
    have HQ := Lib.hid hQ
    have HRR := Lib.hid hr
    have HOR := Lib.hid hor
    have HQL := Lib.hid hq
    clear hst hX hQ hr hor hy hq
    gi_wp2
    rw [HOR.out]
    obtain ⟨q, t, f1, f2, f3, f4, f5, f6⟩ : ∃ q t : Nat, IntKind.u64.wrap ((X : Int) / (b : Int)) = (q : Int) ∧ (X : Int) % (b : Int) = (t : Int) ∧ q < 4294967296 ∧ t < 4294967296 ∧ q = X / b ∧ t = X % b := by
      have := HQL.out
      rw [LB_eq] at this
      refine ⟨X / b, X % b, ?_, by omega, this, by omega, rfl, rfl⟩
      rw [← Int.natCast_ediv, wrap_u]; omega
    have HF5 := Lib.hid f5
    have HF6 := Lib.hid f6
    clear f5 f6 hmod
    have f2t : (X : Int).tmod (b : Int) = (t : Int) := by rw [Int.tmod_eq_emod_of_nonneg (Int.natCast_nonneg _)]; exact f2
    have hb2 : ¬ (b : Int) = 0 := by omega
    have hb3 : ¬ b = 0 := by omega
    have i1 : IntKind.u64.wrap (b : Int) = (b : Int) := wrap_u (by omega)
    have i2 : IntKind.u32.wrap (q : Int) = (q : Int) := by rw [IntKind.wrap_u32]; omega
    have c5' := c5
    have hfin : KeepsOthers W (((W.setCell ⟨w.heap.size + 1, j, none⟩ (.int .u32 (q : Int))).setCell ⟨w.heap.size + 1 + 1 + 1, 0, none⟩ (.int .u64 (t : Int))).drew) ∧
        KpB w.heap.size (w.heap.size + 1 + 1 + 1 + 1) W (((W.setCell ⟨w.heap.size + 1, j, none⟩ (.int .u32 (q : Int))).setCell ⟨w.heap.size + 1 + 1 + 1, 0, none⟩ (.int .u64 (t : Int))).drew) ∧
        LI w L b (pre ++ [⟨j, hj⟩]) (((W.setCell ⟨w.heap.size + 1, j, none⟩ (.int .u32 (q : Int))).setCell ⟨w.heap.size + 1 + 1 + 1, 0, none⟩ (.int .u64 (t : Int))).drew) := by
      refine ⟨((KeepsOthers.setCell _ _ _).trans (KeepsOthers.setCell _ _ _)).trans (KeepsOthers.drew _), ⟨(((Below.refl _ W).setCell (p := ⟨w.heap.size + 1, j, none⟩) (by simp) _).setCell (p := ⟨w.heap.size + 1 + 1 + 1, 0, none⟩) (by simp; omega) _).drew, ?_⟩, ?_⟩
      · show ((W.setCell _ _).setCell _ _).heap[_]? = _
        rw [heap_other _ (by omega), heap_other _ (by omega)]
      · unfold LI
        rw [HST.out]
        have hb' : Below w.heap.size w (((W.setCell ⟨w.heap.size + 1, j, none⟩ (.int .u32 (q : Int))).setCell ⟨w.heap.size + 1 + 1 + 1, 0, none⟩ (.int .u64 (t : Int))).drew) := ((hB.setCell (p := ⟨w.heap.size + 1, j, none⟩) (by simp) _).setCell (p := ⟨w.heap.size + 1 + 1 + 1, 0, none⟩) (by simp; omega) _).drew
        refine ⟨⟨by simp [hl1], ?_, Nat.mod_lt _ hb0⟩, ⟨?_, ?_, ?_, ?_⟩, hb'⟩
        · intro z hz
          rcases List.mem_or_eq_of_mem_set hz with h | h
          · exact hl2 z h
          · rw [h]; exact HQL.out
        · have := (k1.set j q).other (k := w.heap.size + 1 + 1 + 1) (i := 0) (.int .u64 (t : Int)) (by omega)
          rw [HF5.out] at this
          rw [HF5.out]
          exact this
        · exact (k2.other (k := w.heap.size + 1) (i := j) _ (by omega)).other (k := w.heap.size + 1 + 1 + 1) (i := 0) _ (by omega)
        · exact (k3.other (k := w.heap.size + 1) (i := j) _ (by omega)).other (k := w.heap.size + 1 + 1 + 1) (i := 0) _ (by omega)
        · have := (k4.other (k := w.heap.size + 1) (i := j) (.int .u32 (q : Int)) (by omega)).set (.int .u64 (t : Int))
          rw [HF6.out] at this
          rw [HF6.out]
          exact this
    refine wpIn_region_any (by kernel_rfl) ?_
    refine any_round (by kernel_rfl) _ _ _ _ ?_
    change wpAnyIn _ _ _ _ _ _ _ _ _ (World.drew _)
    have k2' : One W.drew w.heap.size 64 (.int .u32 (b : Int)) := k2
    have k4' : One W.drew (w.heap.size + 1 + 1 + 1) 22 (.int .u64 (r : Int)) := k4
    have g1 : ∀ u, (W.drew.setCell ⟨w.heap.size + 1, j, none⟩ u).cell? ⟨w.heap.size, 0, none⟩ = some (.int .u32 (b : Int)) := fun u => (k2'.other u (by omega)).cell
    have g2 : ∀ u, (W.drew.setCell ⟨w.heap.size + 1, j, none⟩ u).cell? ⟨w.heap.size + 1 + 1 + 1, 0, none⟩ = some (.int .u64 (r : Int)) := fun u => (k4'.other u (by omega)).cell
    have g3 : ∀ u, (W.drew.setCell ⟨w.heap.size + 1, j, none⟩ u).frozen? ⟨w.heap.size + 1 + 1 + 1, 0, none⟩ = false := fun u => (k4'.other u (by omega)).frozen
    repeat' (first
      | (refine wpAnyIn_take (i := 1) (v := .int .i64 (j : Int)) rfl rfl (by kernel_rfl) (by decide +kernel) (by decide +kernel) (fun _ _ _ h => h) ⟨Or.inl ⟨by rfl, fun w => by go_simp⟩, fun _ => rfl⟩ ?_)
      | (refine wpAnyIn_take (i := 2) (v := .int .u64 (X : Int)) rfl rfl (by kernel_rfl) (by decide +kernel) (by decide +kernel) (fun _ _ _ h => h) ⟨Or.inl ⟨by rfl, fun w => by go_simp⟩, fun _ => rfl⟩ ?_)
      | (refine wpAnyIn_take (i := 4) (v := .int .u64 (b : Int)) rfl rfl (by kernel_rfl) (by decide +kernel) (by decide +kernel) (fun _ _ _ h => h) ⟨Or.inl ⟨by rfl, fun w => by go_simp⟩, fun _ => rfl⟩ ?_)
      | (refine wpAnyIn_take (i := 5) (v := .int .u64 (q : Int)) rfl rfl (by kernel_rfl) (by decide +kernel) (by decide +kernel) (fun _ _ _ h => h) ⟨Or.inl ⟨by rfl, fun w => by go_simp⟩, fun _ => rfl⟩ ?_)
      | (refine wpAnyIn_take (i := 6) (v := .int .u32 (q : Int)) rfl rfl (by kernel_rfl) (by decide +kernel) (by decide +kernel) (fun _ _ _ h => h) ⟨Or.inl ⟨by rfl, fun w => by go_simp⟩, fun _ => rfl⟩ ?_)
      | (refine wpAnyIn_take (i := 7) (v := .int .u64 (X : Int)) rfl rfl (by kernel_rfl) (by decide +kernel) (by decide +kernel) (fun _ _ _ h => h) ⟨Or.inl ⟨by rfl, fun w => by go_simp⟩, fun _ => rfl⟩ ?_)
      | (refine wpAnyIn_take (i := 9) (v := .int .u64 (b : Int)) rfl rfl (by kernel_rfl) (by decide +kernel) (by decide +kernel) (fun _ _ _ h => h) ⟨Or.inl ⟨by rfl, fun w => by go_simp⟩, fun _ => rfl⟩ ?_)
      | (refine wpAnyIn_take (i := 10) (v := .int .u64 (t : Int)) rfl rfl (by kernel_rfl) (by decide +kernel) (by decide +kernel) (fun _ _ _ h => h) ⟨Or.inl ⟨by rfl, fun w => by go_simp⟩, fun _ => rfl⟩ ?_)
      | (refine wpAnyIn_take (i := 11) (v := .pointer (some ⟨w.heap.size + 1, j, none⟩)) rfl rfl (by kernel_rfl) (by decide +kernel) (by decide +kernel) (fun _ _ _ h => h) ⟨Or.inl ⟨by rfl, fun w => by go_simp⟩, fun _ => rfl⟩ ?_)
      | (refine wpAnyIn_ready (rs := [0, 3, 8]) (by decide +kernel) (by simp) ?_; refine AllReadyIn.cons rfl (fun K hK => ?_) ?_; (go_simp; refine hK _ _ ?_; clear hK K); rotate_left; refine AllReadyIn.cons rfl (fun K hK => ?_) ?_; (go_simp; refine hK _ _ ?_; clear hK K); rotate_left; refine AllReadyIn.cons rfl (fun K hK => ?_) ?_; (go_simp; refine hK _ _ ?_; clear hK K); rotate_left; exact AllReadyIn.nil)
      | (refine wpAnyIn_ready (rs := [0, 3]) (by decide +kernel) (by simp) ?_; refine AllReadyIn.cons rfl (fun K hK => ?_) ?_; (go_simp; refine hK _ _ ?_; clear hK K); rotate_left; refine AllReadyIn.cons rfl (fun K hK => ?_) ?_; (go_simp; refine hK _ _ ?_; clear hK K); rotate_left; exact AllReadyIn.nil)
      | (refine wpAnyIn_ready (rs := [0, 8]) (by decide +kernel) (by simp) ?_; refine AllReadyIn.cons rfl (fun K hK => ?_) ?_; (go_simp; refine hK _ _ ?_; clear hK K); rotate_left; refine AllReadyIn.cons rfl (fun K hK => ?_) ?_; (go_simp; refine hK _ _ ?_; clear hK K); rotate_left; exact AllReadyIn.nil)
      | (refine wpAnyIn_ready (rs := [3, 8]) (by decide +kernel) (by simp) ?_; refine AllReadyIn.cons rfl (fun K hK => ?_) ?_; (go_simp; refine hK _ _ ?_; clear hK K); rotate_left; refine AllReadyIn.cons rfl (fun K hK => ?_) ?_; (go_simp; refine hK _ _ ?_; clear hK K); rotate_left; exact AllReadyIn.nil)
      | (refine wpAnyIn_ready (rs := [0]) (by decide +kernel) (by simp) ?_; refine AllReadyIn.cons rfl (fun K hK => ?_) ?_; (go_simp; refine hK _ _ ?_; clear hK K); rotate_left; exact AllReadyIn.nil)
      | (refine wpAnyIn_ready (rs := [3]) (by decide +kernel) (by simp) ?_; refine AllReadyIn.cons rfl (fun K hK => ?_) ?_; (go_simp; refine hK _ _ ?_; clear hK K); rotate_left; exact AllReadyIn.nil)
      | (refine wpAnyIn_ready (rs := [8]) (by decide +kernel) (by simp) ?_; refine AllReadyIn.cons rfl (fun K hK => ?_) ?_; (go_simp; refine hK _ _ ?_; clear hK K); rotate_left; exact AllReadyIn.nil)
      | (refine wpAnyIn_ready (rs := [8, 12]) (by decide +kernel) (by simp) ?_; refine AllReadyIn.cons rfl (fun K hK => ?_) ?_; (go_simp; refine hK _ _ ?_; clear hK K); rotate_left; refine AllReadyIn.cons rfl (fun K hK => ?_) ?_; (go_simp; refine hK _ _ ?_; clear hK K); rotate_left; exact AllReadyIn.nil)
      | (refine wpAnyIn_ready (rs := [12]) (by decide +kernel) (by simp) ?_; refine AllReadyIn.cons rfl (fun K hK => ?_) ?_; (go_simp; refine hK _ _ ?_; clear hK K); rotate_left; exact AllReadyIn.nil)
      | (refine wpAnyIn_ready (rs := [13]) (by decide +kernel) (by simp) ?_; refine AllReadyIn.cons rfl (fun K hK => ?_) ?_; (go_simp; refine hK _ _ ?_; clear hK K); rotate_left; exact AllReadyIn.nil)
      | (refine wpAnyIn_done (by decide +kernel) ?_ _))
    all_goals exact hfin
  case done =>
    rintro D ys W hD rfl ⟨⟨hl1, hl2, hl3⟩, ⟨k1, k2, k3, k4⟩, hB⟩ hK
    obtain ⟨e1, e2, e3, e4⟩ := lsteps_all HO.out hb0
    have hrow := k1.whole hl2 L.length (by omega)
    have hnum := hrow.trimmed
    rw [hl1] at hrow
    rw [e3] at hnum
    rw [e4] at k4
    have c1 := k4.cell
    have c2 := k3.cell
    have htr : ∀ a, Calls Tryz.prog 75 #[.slice (some ⟨w.heap.size + 1, 0, none⟩) L.length L.length] (W.drewN a) fun e w' => e = .returned (.slice (some ⟨w.heap.size + 1, 0, none⟩) (dg (val L / b)).length L.length) ∧ W.drewN a = w' := by
      intro a
      have h0 : Lim (W.drewN a) W.heap.size (.slice (some ⟨w.heap.size + 1, 0, none⟩) (lsteps L b (bk L L.length (Nat.le_refl _))).1.length L.length) (lsteps L b (bk L L.length (Nat.le_refl _))).1 := by
        rw [hl1]; exact hrow.below (below_drewN W a)
      have := trim_at _ _ _ _ _ h0 (by rw [hl1]; omega)
      rw [hl1, e3] at this
      exact this
    have hmB : val L % b < 4294967296 := by have := Nat.mod_lt (val L) hb0; omega
    have HTR := Lib.hid htr
    have HNUM := Lib.hid hnum
    clear hnum htr e1 e2 e3 e4 hrow hl1 hl2 hl3
    gi_wp2
    refine wpIn_wide.2 ?_
    go_quiet ((go_at_call 75; refine (HTR.out _).mono ?_; rintro e w' ⟨rfl, rfl⟩; exact ⟨rfl, _, rfl⟩))
    gi_wp2
    refine ⟨by simp, .inl ⟨_, _, rfl, run_takeDeferred hK, ?_⟩⟩
    have hbD : Below (w.heap.size + 2) W ((W.drewN nq).putObj D (.deferred none)) := ((below_drewN W nq).mono (by have := hB.size; have := k1.lt; omega)).trans (belowK_b (w := W0) (by omega) (W.drewN nq) D _ _ hD hK rfl rfl)
    refine ⟨.tuple #[.slice (some ⟨w.heap.size + 1, 0, none⟩) (dg (val L / b)).length L.length, .int .u32 ((val L % b : Nat) : Int)], by simp [results, Tryz.results78, go_sem], ?_⟩
    refine ⟨_, rfl, ?_, hB.trans (hbD.mono (by omega))⟩
    have h2 : Num W (w.heap.size + 2) (.slice (some ⟨w.heap.size + 1, 0, none⟩) (dg (val L / b)).length L.length) (val L / b) := Lim.at HNUM.out (by omega)
    exact Lim.more (Lim.below h2 hbD) (by have := hbD.size; have := hB.size; have := k1.lt; omega)
  case stop =>
    rintro D c pre W _ _ h _
    exact h.elim

theorem limb_any (va : Value) (m b : Nat) (w : World) (ha : Num w w.heap.size va m) (hla : (dg m).length ≤ 100000000) (hb0 : 0 < b) (hb : b < LB) :
    Calls Tryz.prog 78 #[va, .int .u32 (b : Int)] w fun e w' => ∃ v', e = .returned (.tuple #[v', .int .u32 ((m % b : Nat) : Int)]) ∧ Num w' w'.heap.size v' (m / b) ∧ Below w.heap.size w w' :=
  (callsIn_wide (n := 3)).1 (limb_in 3 (Nat.le_refl _) va m b w ha hla hb0 hb)
end Go.Proofs.YtlababdfdjjjaaaGreatDoor
