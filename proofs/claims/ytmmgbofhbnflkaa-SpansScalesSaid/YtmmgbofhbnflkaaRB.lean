import Derived.Test.YtmmgbofhbnflkaaI1
import Derived.Deep.AppendLies
import Derived.Maps.AppendAt
import Derived.Laws.OwnMore
import Derived.Laws.CopyOwn
import Derived.Laws.MakeOwn
import Derived.Test.YtmmgbofhbnflkaaP1
namespace Go.Proofs.Ytmmgbofhbnflkaa
open Go.RowKit

theorem ret_str {a b : ByteArray} (h : a = b) : Ending.returned (.string a) = .returned (.string b) := by rw [h]
theorem below_grow (w : World) (os : Array Obj) : Below w.heap.size w (Go.Sort.grow w os) where
  os := rfl
  tape := rfl
  output := rfl
  size := by simp [Go.Sort.grow]
  block := fun k hk => by
    show (w.heap ++ os)[k]? = w.heap[k]?
    rw [Array.getElem?_append_left hk]
theorem below_drewN_grow (w : World) (k : Nat) (os : Array Obj) : Below w.heap.size w (Go.Sort.grow (w.drewN k) os) :=
  (below_drewN w k).trans ((below_grow (w.drewN k) os).mono (below_drewN w k).size)
theorem drewN_drewN (w : World) (a b : Nat) : (w.drewN a).drewN b = w.drewN (a + b) := World.drewN_drewN _ _ _
def Drawn (w w' : World) : Prop := ∃ n, w' = w.drewN n
theorem Drawn.below {w w' : World} (h : Drawn w w') : Below w.heap.size w w' := by obtain ⟨n, rfl⟩ := h; exact below_drewN w n
theorem Drawn.refl (w : World) : Drawn w w := ⟨0, rfl⟩
theorem Drawn.trans {w w1 w2 : World} (h : Drawn w w1) (h' : Drawn w1 w2) : Drawn w w2 := by
  obtain ⟨a, rfl⟩ := h; obtain ⟨b, rfl⟩ := h'; exact ⟨a + b, drewN_drewN _ _ _⟩
theorem Drawn.size {w w' : World} (h : Drawn w w') : w'.heap.size = w.heap.size := by
  obtain ⟨n, rfl⟩ := h; rfl
theorem add_eq (g j : Nat) : (⟨g, 0, none⟩ : Addr).add j = ⟨g, j, none⟩ := by
  unfold Addr.add; by_cases h : j = 0 <;> simp [h]
theorem grownBy_of_below {W W' : World} (h : Below W.heap.size W W') : W.grownBy W' none := ⟨h.os, h.tape, h.output, h.size, fun k hk _ => h.block k hk⟩
theorem own_ge {w1 : World} {e : TypeId} {size n : Nat} {v : Value} {xs : List Value} {base : Nat} (h : w1.ownsRow base e size v n xs) : ∀ j, v.ownBlock = some j → base ≤ j := fun j hj => (h.lt j hj).1
theorem take_snoc' {α : Type} (xs : List α) (k : Nat) (x : α) (h : xs[k]? = some x) : xs.take (k + 1) = xs.take k ++ [x] := by
  rw [List.take_add_one, h]; rfl

/-- Block g holds limbs. -/
def TyU (w : World) (g : Nat) : Prop := ∃ cur fr, w.heap[g]? = some (.cells cur 39 fr)
/-- The slice value v reads as these cells, an element a cell, in a block of limbs below B. -/
def SlC (w : World) (B : Nat) (v : Value) (cs : List Value) : Prop :=
  ∃ A cap, v = .slice A cs.length cap ∧ cs.length ≤ cap ∧ (cs ≠ [] → ∃ g o, A = some ⟨g, o, none⟩ ∧ g < B ∧ TyU w g ∧ ∀ k x, cs[k]? = some x → w.cell? ⟨g, o + k, none⟩ = some x)
theorem SlC.of_own {w : World} {base : Nat} {v : Value} {cs : List Value} {n : Nat} (h : w.ownsRow base 39 1 v n cs) : SlC w w.heap.size v cs := by
  have hl : cs.length = n := by have := h.1; omega
  subst hl
  rcases h.2 with ⟨rfl, h0⟩ | ⟨g, cap, cur, rfl, _, hgg, hc, _⟩
  · exact ⟨none, 0, by rw [h0], by omega, fun hne => absurd (List.eq_nil_of_length_eq_zero h0) hne⟩
  · refine ⟨_, cap, rfl, hc, fun hne => ⟨g, 0, rfl, ?_, ⟨cur, _, hgg⟩, ?_⟩⟩
    · have hpos : 0 < cs.length := List.length_pos_iff.2 hne
      obtain ⟨g', cap', e, _, hlt⟩ := h.form hpos
      cases e; exact hlt
    · intro k x hx
      have c1 := h.cells (g := g) rfl _ _ hx
      rw [add_eq] at c1
      simpa using c1
theorem SlC.keep {w w' : World} {B : Nat} {v : Value} {cs : List Value} (h : SlC w B v cs) (hk : ∀ g, g < B → w'.heap[g]? = w.heap[g]?) : SlC w' B v cs := by
  obtain ⟨A, cap, rfl, hc, h⟩ := h
  refine ⟨A, cap, rfl, hc, fun hne => ?_⟩
  obtain ⟨g, o, rfl, hg, ⟨cur, fr, ht⟩, hx⟩ := h hne
  exact ⟨g, o, rfl, hg, ⟨cur, fr, (hk g hg).trans ht⟩, fun k x hk' => (World.cell?_of_block (a := ⟨g, o + k, none⟩) (hk g hg)).trans (hx k x hk')⟩
theorem SlC.below {w w' : World} {B : Nat} {v : Value} {cs : List Value} (h : SlC w B v cs) (hb : Below B w w') : SlC w' B v cs := h.keep fun g hg => hb.block g hg
theorem SlC.more {w : World} {B B' : Nat} {v : Value} {cs : List Value} (h : SlC w B v cs) (hB : B ≤ B') : SlC w B' v cs := by
  obtain ⟨A, cap, rfl, hc, h⟩ := h
  exact ⟨A, cap, rfl, hc, fun hne => let ⟨g, o, e, hg, ht, hx⟩ := h hne; ⟨g, o, e, by omega, ht, hx⟩⟩
theorem SlC.up {w w' : World} {v : Value} {cs : List Value} (h : SlC w w.heap.size v cs) (hb : Below w.heap.size w w') : SlC w' w'.heap.size v cs := (h.below hb).more hb.size
theorem SlC.nil (w : World) (B c : Nat) (A : Option Addr) : SlC w B (.slice A 0 c) [] := ⟨A, c, rfl, Nat.zero_le _, fun h => absurd rfl h⟩
theorem SlC.cell {w : World} {B : Nat} {A : Option Addr} {n cap : Nat} {cs : List Value} (h : SlC w B (.slice A n cap) cs) {k : Nat} {x : Value} (hx : cs[k]? = some x) :
    ∃ g o, A = some ⟨g, o, none⟩ ∧ g < B ∧ w.cell? ⟨g, o + k, none⟩ = some x := by
  obtain ⟨A', cap', e, _, h⟩ := h
  cases e
  obtain ⟨g, o, rfl, hg, -, hh⟩ := h (by rintro rfl; simp at hx)
  exact ⟨g, o, rfl, hg, hh k x hx⟩
theorem SlC.form {w : World} {B : Nat} {v : Value} {cs : List Value} (h : SlC w B v cs) : ∃ A cap, v = .slice A cs.length cap ∧ cs.length ≤ cap := by
  obtain ⟨A, cap, e, hc, _⟩ := h; exact ⟨A, cap, e, hc⟩
/-- The first elements. -/
theorem SlC.take {w : World} {B : Nat} {A : Option Addr} {n cap : Nat} {cs : List Value} (h : SlC w B (.slice A n cap) cs) (k : Nat) (hk : k ≤ n) : SlC w B (.slice A k cap) (cs.take k) := by
  obtain ⟨A', cap', e, hc, h⟩ := h
  cases e
  refine ⟨A, cap, by rw [List.length_take, Nat.min_eq_left hk], by rw [List.length_take]; omega, fun hne => ?_⟩
  have hne' : cs ≠ [] := by rintro rfl; simp at hne
  obtain ⟨g, o, rfl, hg, ht, hh⟩ := h hne'
  refine ⟨g, o, rfl, hg, ht, fun j x hx => hh j x ?_⟩
  rw [List.getElem?_take] at hx
  split at hx
  · exact hx
  · cases hx
/-- A block that is not of limbs may turn; so may another one. -/
theorem SlC.kept {w w' : World} {B : Nat} {v : Value} {cs : List Value} (h : SlC w B v cs) (hk : ∀ g, g < B → TyU w g → v.ownBlock = some g → w'.heap[g]? = w.heap[g]?) : SlC w' B v cs := by
  obtain ⟨A, cap, rfl, hc, h⟩ := h
  refine ⟨A, cap, rfl, hc, fun hne => ?_⟩
  obtain ⟨g, o, rfl, hg, ⟨cur, fr, ht⟩, hx⟩ := h hne
  have e := hk g hg ⟨cur, fr, ht⟩ rfl
  exact ⟨g, o, rfl, hg, ⟨cur, fr, e.trans ht⟩, fun k x hk' => (World.cell?_of_block (a := ⟨g, o + k, none⟩) e).trans (hx k x hk')⟩
theorem SlC.other {w : World} {B k i : Nat} {v u : Value} {cs : List Value} (h : SlC w B v cs) (hne : v.ownBlock ≠ some k) : SlC (w.setCell ⟨k, i, none⟩ u) B v cs := by
  refine h.kept fun g hg _ hv => ?_
  have hgk : g ≠ k := fun e => hne (by rw [← e]; exact hv)
  simp only [World.setCell]
  rw [Array.getElem?_modify, if_neg (fun e => hgk e.symm)]
theorem grownBy_trans {a b c : World} {row : Option Nat} (h : a.grownBy b row) (k : b.grownBy c row) : a.grownBy c row :=
  ⟨k.os.trans h.os, k.tape.trans h.tape, k.output.trans h.output, Nat.le_trans h.size k.size, fun i hi hne => (k.block i (Nat.lt_of_lt_of_le hi h.size) hne).trans (h.block i hi hne)⟩
theorem grownBy_refl (a : World) (row : Option Nat) : a.grownBy a row := ⟨rfl, rfl, rfl, Nat.le_refl _, fun _ _ _ => rfl⟩
theorem grownBy_drewN (a : World) (row : Option Nat) (n : Nat) : a.grownBy (a.drewN n) row := by
  have h := below_drewN a n
  exact ⟨h.os, h.tape, h.output, h.size, fun i hi _ => h.block i hi⟩
theorem grownBy_set {a w : World} {g : Nat} (h : a.grownBy w (some g)) (i : Nat) (u : Value) : a.grownBy (w.setCell ⟨g, i, none⟩ u) (some g) :=
  ⟨h.os, h.tape, h.output, by simpa [World.setCell] using h.size, fun j hj hne => (Below.heap_setCell w ⟨g, i, none⟩ u j (by rintro rfl; exact hne rfl)).trans (h.block j hj hne)⟩
/-- A call's own block may turn. -/
theorem below_of_grown {B : Nat} {w0 w w' : World} {g : Nat} (h : Below B w0 w) (hg : w.grownBy w' (some g)) (hB : B ≤ g) (hBw : B ≤ w.heap.size) : Below B w0 w' :=
  h.grown hg hBw (fun k e => by cases e; exact hB)
theorem SlC.grown {w w' : World} {B g : Nat} {v : Value} {cs : List Value} (h : SlC w B v cs) (hg : w.grownBy w' (some g)) (hB : B ≤ g) (hBw : B ≤ w.heap.size) : SlC w' B v cs :=
  h.keep fun b hb => hg.block b (by omega) (fun e => by cases e; omega)

def u32 (x : Nat) : Value := .int .u32 (x : Int)
/-- v holds these limbs. -/
def Lim (w : World) (B : Nat) (v : Value) (l : List Nat) : Prop := SlC w B v (l.map u32) ∧ okL l
/-- v holds this number, with no zero limb at the end. -/
def Num (w : World) (B : Nat) (v : Value) (n : Nat) : Prop := Lim w B v (dg n)
theorem Lim.below {w w' : World} {B : Nat} {v : Value} {l : List Nat} (h : Lim w B v l) (hb : Below B w w') : Lim w' B v l := ⟨h.1.below hb, h.2⟩
theorem Lim.more {w : World} {B B' : Nat} {v : Value} {l : List Nat} (h : Lim w B v l) (hB : B ≤ B') : Lim w B' v l := ⟨h.1.more hB, h.2⟩
theorem Lim.up {w w' : World} {v : Value} {l : List Nat} (h : Lim w w.heap.size v l) (hb : Below w.heap.size w w') : Lim w' w'.heap.size v l := ⟨h.1.up hb, h.2⟩
theorem Lim.form {w : World} {B : Nat} {v : Value} {l : List Nat} (h : Lim w B v l) : ∃ A cap, v = .slice A l.length cap ∧ l.length ≤ cap := by
  have := h.1.form; simpa using this
theorem Lim.cell {w : World} {B : Nat} {A : Option Addr} {n cap : Nat} {l : List Nat} (h : Lim w B (.slice A n cap) l) {k x : Nat} (hx : l[k]? = some x) :
    ∃ g o, A = some ⟨g, o, none⟩ ∧ g < B ∧ w.cell? ⟨g, o + k, none⟩ = some (.int .u32 (x : Int)) := h.1.cell (x := u32 x) (by rw [List.getElem?_map, hx]; rfl)
theorem Lim.lt {l : List Nat} (h : okL l) {k x : Nat} (hx : l[k]? = some x) : x < 4294967296 := h x (List.mem_of_getElem? hx)
theorem Lim.take {w : World} {B : Nat} {A : Option Addr} {n cap : Nat} {l : List Nat} (h : Lim w B (.slice A n cap) l) (k : Nat) (hk : k ≤ n) : Lim w B (.slice A k cap) (l.take k) :=
  ⟨by rw [List.map_take]; exact h.1.take k hk, okL_take h.2 k⟩
theorem Lim.nil (w : World) (B c : Nat) (A : Option Addr) : Lim w B (.slice A 0 c) [] := ⟨SlC.nil w B c A, okL_nil⟩
theorem Num.zero (w : World) (B : Nat) : Num w B (.slice none 0 0) 0 := by unfold Num; rw [dg_zero]; exact Lim.nil _ _ _ _

theorem trim_dg_end {l : List Nat} {k : Nat} (ho : okL l) (hv : val (l.take k) = val l) (h : k = 0 ∨ ∃ x, l[k - 1]? = some x ∧ x ≠ 0) : l.take k = dg (val l) := by
  rcases h with rfl | ⟨x, hx, h0⟩
  · exact trim_end hv
  · by_cases hk : k = 0
    · subst hk; exact trim_end hv
    · obtain ⟨j, rfl⟩ : ∃ j, k = j + 1 := ⟨k - 1, by omega⟩
      have hj : j < l.length := (List.getElem?_eq_some_iff.1 (by simpa using hx)).1
      exact trim_stop ho hj (by simpa using hx) h0 hv




theorem Try.infoU : (Try.prog.info? 39).map (fun i => (i.zero, i.size, i.bytes)) = some (some (.int .u32 0), 1, 4) := by kernel_rfl
theorem Try.sizeU : (Try.prog.info? 39).map (·.size) = some 1 := by kernel_rfl
def zeros (n : Nat) : List Value := (List.replicate n 0).map u32
theorem zeros_len (n : Nat) : (zeros n).length = n := by simp [zeros]
theorem mkU (n : Nat) (hn : n ≤ 10000000000) (w : World) :
    (Instr.makeSlice 59 (.int .i64 (n : Int)) (.int .i64 (n : Int))).run Try.prog w = .ok (.slice (some ⟨w.heap.size, 0, none⟩) n n) (w.alloc (.cells (zeros n).toArray 39)) := by
  obtain ⟨i0, hi, hz0, hz1, hz2⟩ := info_parts Try.infoU
  have h := run_make (P := Try.prog) w 59 39 i0 _ Try.underlying59 hi hz0 .i64 .i64 n n (by omega) (by omega) (by rw [hz2]; omega) (by omega)
  simp only [Int.toNat_natCast] at h
  rw [hz1, Nat.mul_one] at h
  have e : madeCells (Value.int .u32 0).cells n = (zeros n).toArray := by
    apply Array.toList_inj.1
    rw [show (Value.int .u32 0).cells = #[Value.int .u32 0] from rfl, toList_madeCells_one]
    simp [zeros, u32]
  rw [e] at h
  exact h

theorem mkI (x : Int) (n : Nat) (hx : x = (n : Int)) (hn : n ≤ 10000000000) (w : World) :
    (Instr.makeSlice 59 (.int .i64 x) (.int .i64 x)).run Try.prog w = .ok (.slice (some ⟨w.heap.size, 0, none⟩) n n) (w.alloc (.cells (zeros n).toArray 39)) := by
  subst hx; exact mkU n hn w

/-- Block g holds just these limbs. -/
def Row (w : World) (g : Nat) (L : List Nat) : Prop := w.heap[g]? = some (.cells (L.map u32).toArray 39 (0, 0))
theorem Row.cell {w : World} {g : Nat} {L : List Nat} (h : Row w g L) {i x : Nat} (hx : L[i]? = some x) : w.cell? ⟨g, i, none⟩ = some (.int .u32 (x : Int)) := by
  rw [Go.Joins.cell_of_block h i]; simp [hx, u32]
theorem Row.frozen {w : World} {g : Nat} {L : List Nat} (h : Row w g L) (i : Nat) : w.frozen? ⟨g, i, none⟩ = false := by
  have e : w.heap[g]? = some (.cells (L.map u32).toArray 39 (0, 0)) := h
  simp [World.frozen?, e]
theorem Row.lt {w : World} {g : Nat} {L : List Nat} (h : Row w g L) : g < w.heap.size := (Array.getElem?_eq_some_iff.1 h).1
theorem Row.new (w : World) (n : Nat) : Row (w.alloc (.cells (zeros n).toArray 39)) w.heap.size (List.replicate n 0) := heap_alloc_new w _
theorem Row.set {w : World} {g : Nat} {L : List Nat} (h : Row w g L) (i x : Nat) : Row (w.setCell ⟨g, i, none⟩ (.int .u32 (x : Int))) g (L.set i x) := by
  have e : w.heap[g]? = some (.cells (L.map u32).toArray 39 (0, 0)) := h
  show (w.setCell _ _).heap[g]? = _
  rw [List.map_set]
  simp [World.setCell, Array.getElem?_modify, e, u32]
theorem Row.below {w w' : World} {B g : Nat} {L : List Nat} (h : Row w g L) (hb : Below B w w') (hg : g < B) : Row w' g L := (hb.block g hg).trans h
theorem Row.up {w w' : World} {g : Nat} {L : List Nat} (h : Row w g L) (hb : Below w.heap.size w w') : Row w' g L := h.below hb h.lt
theorem Row.drewN {w : World} {g : Nat} {L : List Nat} (h : Row w g L) (n : Nat) : Row (w.drewN n) g L := h
theorem Row.alloc {w : World} {g : Nat} {L : List Nat} (h : Row w g L) (o : Obj) : Row (w.alloc o) g L := h.up ((Below.refl _ _).alloc (Nat.le_refl _) o)
/-- A part of the row as limbs. -/
theorem Row.part {w : World} {g : Nat} {L : List Nat} (h : Row w g L) (ho : okL L) (o n cap : Nat) (hn : o + n ≤ L.length) (hc : n ≤ cap) : Lim w w.heap.size (.slice (some ⟨g, o, none⟩) n cap) ((L.drop o).take n) := by
  have hl : ((L.drop o).take n).length = n := by rw [List.length_take, List.length_drop]; omega
  refine ⟨⟨_, cap, by rw [List.length_map, hl], by rw [List.length_map, hl]; exact hc, fun _ => ⟨g, o, rfl, h.lt, ⟨_, _, h⟩, ?_⟩⟩, okL_take (okL_drop ho o) n⟩
  intro k x hx
  rw [List.getElem?_map] at hx
  obtain ⟨y, hy, rfl⟩ := Option.map_eq_some_iff.1 hx
  rw [List.getElem?_take] at hy
  split at hy
  · rw [List.getElem?_drop] at hy
    exact h.cell hy
  · cases hy
theorem Row.whole {w : World} {g : Nat} {L : List Nat} (h : Row w g L) (ho : okL L) (cap : Nat) (hc : L.length ≤ cap) : Lim w w.heap.size (.slice (some ⟨g, 0, none⟩) L.length cap) L := by
  have := h.part ho 0 L.length cap (by omega) hc
  simpa using this
theorem add_of (g o j : Nat) : (⟨g, o, none⟩ : Addr).add j = ⟨g, o + j, none⟩ := by
  unfold Addr.add; by_cases h : j = 0 <;> simp [h]
/-- What copy asks of its source. -/
theorem SlC.src {w : World} {B : Nat} {A : Option Addr} {n cap : Nat} {cs : List Value} (h : SlC w B (.slice A n cap) cs) (h0 : 0 < cs.length) : ∃ ad, A = some ad ∧ ∀ j v, cs[j]? = some v → w.cell? (ad.add j) = some v := by
  obtain ⟨A', cap', e, hc, h⟩ := h
  cases e
  obtain ⟨g, o, rfl, hg, -, hh⟩ := h (by rintro rfl; simp at h0)
  exact ⟨_, rfl, fun j v hv => by rw [add_of]; exact hh j v hv⟩
theorem one_u32 (l : List Nat) : ∀ v ∈ l.map u32, v.oneCell' = true := by
  intro v hv
  obtain ⟨x, _, rfl⟩ := List.mem_map.1 hv
  rfl
theorem splice_map (f : Nat → Value) (L : List Nat) (o : Nat) (cs : List Nat) : splice (L.map f) o (cs.map f) = (splice L o cs).map f := by
  simp [splice]
theorem splice_full (n : Nat) (l : List Nat) (h : l.length = n) : splice (List.replicate n 0) 0 l = l := by simp [splice, h]

/-- copy of limbs into a row of the call's own. -/
theorem copyU (w : World) (A : Option Addr) (g off dLen dCap sCap B : Nat) (L l : List Nat) (hr : Row w g L) (hs : Lim w B (.slice A l.length sCap) l) (hl : l.length ≤ dLen) (hfit : off + l.length ≤ L.length) :
    ∃ w', (Builtin.copy_ #[59, 59] 3 #[.slice (some ⟨g, off, none⟩) dLen dCap, .slice A l.length sCap]).run Try.prog w = .ok (.int .i64 (l.length : Int)) w' ∧
      Row w' g (splice L off l) ∧ w.grownBy w' (some g) ∧ w'.heap.size = w.heap.size := by
  by_cases h0 : l.length = 0
  · refine ⟨w, ?_, ?_, grownBy_refl _ _, rfl⟩
    · have h := run_copy_none (P := Try.prog) w 59 59 3 39 (some ⟨g, off, none⟩) A dLen dCap l.length sCap Try.underlying59 Try.sizeU (by rw [h0]; exact Nat.zero_min _)
      rw [h, h0]; rfl
    · have : l = [] := List.eq_nil_of_length_eq_zero h0
      subst this; simpa [splice] using hr
  · obtain ⟨ad, rfl, hsrc⟩ := SlC.src hs.1 (by simp; omega)
    have h := run_copy_row (P := Try.prog) w 59 59 3 39 g off dLen dCap ad l.length sCap (L.map u32).toArray 39 (l.map u32) Try.underlying59 Try.sizeU hr
      (by rw [List.length_map]; exact (Nat.min_eq_left hl).symm) hsrc (by simpa using hfit) (one_u32 l)
    have e : (((L.map u32).toArray).toList.take off ++ l.map u32 ++ ((L.map u32).toArray).toList.drop (off + (l.map u32).length)).toArray = ((splice L off l).map u32).toArray := by
      rw [← splice_map]; simp [splice]
    rw [e, List.length_map] at h
    exact ⟨_, h, setRow_heap w g _ _ 39 _ hr, ⟨rfl, rfl, rfl, by simp [World.setRow], fun k _ hne => setRow_other w g k _ (by rintro rfl; exact hne rfl)⟩, by simp [World.setRow]⟩


def bitsOf (n : Nat) : Nat := if n = 0 then 0 else Nat.log2 n + 1
theorem bits_zero : bitsOf 0 = 0 := rfl
theorem bits_lt (n : Nat) : n < 2 ^ bitsOf n := by
  unfold bitsOf
  split
  · omega
  · exact Nat.lt_log2_self
theorem bits_le {n : Nat} (h : n ≠ 0) : 2 ^ (bitsOf n - 1) ≤ n := by
  unfold bitsOf
  rw [if_neg h, Nat.add_sub_cancel]; exact Nat.log2_self_le h
theorem bits_unique {n k : Nat} (h1 : 2 ^ k ≤ n) (h2 : n < 2 ^ (k + 1)) : bitsOf n = k + 1 := by
  have hn : n ≠ 0 := by have := Nat.two_pow_pos k; omega
  unfold bitsOf
  rw [if_neg hn, Nat.add_right_cancel_iff]
  exact (Nat.log2_eq_iff hn).2 ⟨h1, h2⟩
theorem bits_pos {n : Nat} (h : n ≠ 0) : 0 < bitsOf n := by unfold bitsOf; rw [if_neg h]; omega
theorem bits_le_iff {n k : Nat} : bitsOf n ≤ k ↔ n < 2 ^ k := by
  constructor
  · intro h; exact Nat.lt_of_lt_of_le (bits_lt n) (Nat.pow_le_pow_right (by omega) h)
  · intro h
    by_cases hn : n = 0
    · subst hn; rw [bits_zero]; omega
    · rcases Nat.lt_or_ge k (bitsOf n) with h1 | h1
      · have h2 := bits_le hn
        have h3 : 2 ^ k ≤ 2 ^ (bitsOf n - 1) := Nat.pow_le_pow_right (by omega) (by omega)
        omega
      · exact h1
theorem LBpow (k : Nat) : LB ^ k = 2 ^ (32 * k) := by rw [Nat.pow_mul]; rfl
/-- The bits of the last limb, and those of the limbs before it. -/
theorem bits_top {l : List Nat} {x : Nat} (h : okL l) (hx : x ≠ 0) : bitsOf (val (l ++ [x])) = 32 * l.length + bitsOf x := by
  have h1 := val_lt h
  have h2 := bits_le hx
  have h3 := bits_lt x
  obtain ⟨b, hb⟩ : ∃ b, bitsOf x = b + 1 := ⟨bitsOf x - 1, by have := bits_pos hx; omega⟩
  rw [hb] at h2 h3 ⊢
  rw [Nat.add_sub_cancel] at h2
  rw [show 32 * l.length + (b + 1) = (32 * l.length + b) + 1 by omega]
  rw [val_snoc]
  rw [LBpow] at h1 ⊢
  apply bits_unique
  · rw [Nat.pow_add]
    have := Nat.mul_le_mul_left (2 ^ (32 * l.length)) h2
    omega
  · rw [Nat.add_assoc, Nat.pow_add]
    have := Nat.mul_le_mul_left (2 ^ (32 * l.length)) (show x + 1 ≤ 2 ^ (b + 1) by omega)
    rw [Nat.mul_add] at this
    omega

theorem bits_half {x : Nat} (h : x ≠ 0) : bitsOf x = 1 + bitsOf (x / 2) := by
  unfold bitsOf
  rw [if_neg h, Nat.log2_def]
  split
  · rw [if_neg (by omega)]; omega
  · rw [if_pos (by omega)]

theorem Num.other {w : World} {B k i n : Nat} {v u : Value} (h : Num w B v n) (hne : v.ownBlock ≠ some k) : Num (w.setCell ⟨k, i, none⟩ u) B v n := ⟨SlC.other h.1 hne, h.2⟩
theorem Lim.unique {w : World} {B B' : Nat} {v : Value} {l l' : List Nat} (h : Lim w B v l) (h' : Lim w B' v l') : l = l' := by
  obtain ⟨A, cap, rfl, -⟩ := h.form
  obtain ⟨A', cap', e, -⟩ := h'.form
  injection e with e1 e2 e3
  subst e1 e3
  refine List.ext_getElem? (fun k => ?_)
  by_cases hk : k < l.length
  · obtain ⟨g, o, ea, -, c⟩ := h.cell (List.getElem?_eq_getElem hk)
    have h'' : Lim w B' (.slice A l'.length cap) l' := by rw [← e2]; exact h'
    obtain ⟨g', o', ea', -, c'⟩ := h''.cell (List.getElem?_eq_getElem (show k < l'.length by omega))
    rw [ea] at ea'
    cases ea'
    rw [c] at c'
    injection c' with c'
    injection c' with c1 c2
    have hk' : k < l'.length := by omega
    rw [List.getElem?_eq_getElem hk, List.getElem?_eq_getElem hk']
    congr 1
    omega
  · rw [List.getElem?_eq_none (by omega), List.getElem?_eq_none (by omega)]
theorem Num.unique {w : World} {B B' : Nat} {v : Value} {m n : Nat} (h : Num w B v m) (h' : Num w B' v n) : m = n := dg_inj (Lim.unique h h')
open Classical in
/-- The number that a value is. -/
noncomputable def numOf (w : World) (v : Value) : Nat := if h : ∃ n, Num w w.heap.size v n then Classical.choose h else 0
theorem numOf_eq {w : World} {v : Value} {n : Nat} (h : Num w w.heap.size v n) : numOf w v = n := by
  have hx : ∃ n, Num w w.heap.size v n := ⟨n, h⟩
  unfold numOf
  rw [dif_pos hx]
  exact Num.unique (Classical.choose_spec hx) h


def cmpI (m n : Nat) : Int := if m < n then -1 else if m = n then 0 else 1
theorem cmpI_lt {m n : Nat} (h : m < n) : cmpI m n = -1 := by unfold cmpI; rw [if_pos h]
theorem cmpI_eq {m n : Nat} (h : m = n) : cmpI m n = 0 := by unfold cmpI; rw [if_neg (by omega), if_pos h]
theorem cmpI_gt {m n : Nat} (h : n < m) : cmpI m n = 1 := by unfold cmpI; rw [if_neg (by omega), if_neg (by omega)]
theorem Num.form {w : World} {B : Nat} {v : Value} {n : Nat} (h : Num w B v n) : ∃ A cap, v = .slice A (dg n).length cap ∧ (dg n).length ≤ cap := Lim.form h
theorem Num.below {w w' : World} {B : Nat} {v : Value} {n : Nat} (h : Num w B v n) (hb : Below B w w') : Num w' B v n := Lim.below h hb
theorem Num.up {w w' : World} {v : Value} {n : Nat} (h : Num w w.heap.size v n) (hb : Below w.heap.size w w') : Num w' w'.heap.size v n := Lim.up h hb
end Go.Proofs.Ytmmgbofhbnflkaa
