import Derived.Test.YtlmcafcebidliaaDoorG0
import Derived.Test.YtlmcafcebidliaaDoorRV
namespace Go.Proofs.YtlmcafcebidliaaDoor
open Go.RowKit

/-! Rows of 64-bit words in memory. -/
def u64w (x : Nat) : Value := .int .u64 (x : Int)
/-- v holds these words. -/
def Wrd (w : World) (B : Nat) (v : Value) (l : List Nat) : Prop := SlC w B v (l.map u64w) ∧ okW l
theorem Wrd.below {w w' : World} {B : Nat} {v : Value} {l : List Nat} (h : Wrd w B v l) (hb : Below B w w') : Wrd w' B v l := ⟨h.1.below hb, h.2⟩
theorem Wrd.form {w : World} {B : Nat} {v : Value} {l : List Nat} (h : Wrd w B v l) : ∃ A cap, v = .slice A l.length cap ∧ l.length ≤ cap := by
  obtain ⟨A, cap, e, hc, _⟩ := h.1
  rw [List.length_map] at e hc
  exact ⟨A, cap, e, hc⟩
theorem wlt {l : List Nat} (h : okW l) {k x : Nat} (hx : l[k]? = some x) : x < 18446744073709551616 := h x (List.mem_of_getElem? hx)
/-- Block g holds just these words. -/
def RowW (w : World) (g : Nat) (L : List Nat) : Prop := w.heap[g]? = some (.cells (L.map u64w).toArray 128 (0, 0))
theorem RowW.cell {w : World} {g : Nat} {L : List Nat} (h : RowW w g L) {i x : Nat} (hx : L[i]? = some x) : w.cell? ⟨g, i, none⟩ = some (.int .u64 (x : Int)) := by
  rw [Go.Joins.cell_of_block h i]; simp [hx, u64w]
theorem RowW.frozen {w : World} {g : Nat} {L : List Nat} (h : RowW w g L) (i : Nat) : w.frozen? ⟨g, i, none⟩ = false := by
  have e : w.heap[g]? = some (.cells (L.map u64w).toArray 128 (0, 0)) := h
  simp [World.frozen?, e]
theorem RowW.lt {w : World} {g : Nat} {L : List Nat} (h : RowW w g L) : g < w.heap.size := (Array.getElem?_eq_some_iff.1 h).1
theorem RowW.set {w : World} {g : Nat} {L : List Nat} (h : RowW w g L) (i x : Nat) : RowW (w.setCell ⟨g, i, none⟩ (.int .u64 (x : Int))) g (L.set i x) := by
  have e : w.heap[g]? = some (.cells (L.map u64w).toArray 128 (0, 0)) := h
  show (w.setCell _ _).heap[g]? = _
  rw [List.map_set]
  simp [World.setCell, Array.getElem?_modify, e, u64w]
theorem RowW.below {w w' : World} {B g : Nat} {L : List Nat} (h : RowW w g L) (hb : Below B w w') (hg : g < B) : RowW w' g L := (hb.block g hg).trans h
theorem RowW.up {w w' : World} {g : Nat} {L : List Nat} (h : RowW w g L) (hb : Below w.heap.size w w') : RowW w' g L := h.below hb h.lt
theorem RowW.drewN {w : World} {g : Nat} {L : List Nat} (h : RowW w g L) (n : Nat) : RowW (w.drewN n) g L := h
theorem RowW.grown {w w' : World} {g k : Nat} {L : List Nat} (h : RowW w g L) (hg : w.grownBy w' (some k)) (hne : g ≠ k) : RowW w' g L :=
  (hg.block g h.lt (fun e => hne (by cases e; rfl))).trans h
theorem RowW.other {W : World} {g k i : Nat} {L : List Nat} (h : RowW W g L) (u : Value) (hne : g ≠ k) : RowW (W.setCell ⟨k, i, none⟩ u) g L := by
  show (W.setCell _ _).heap[g]? = _
  have e : W.heap[g]? = some (.cells (L.map u64w).toArray 128 (0, 0)) := h
  rw [← e]
  simp [World.setCell, Array.getElem?_modify, hne.symm]
/-- A part of the row. -/
theorem RowW.part {w : World} {g : Nat} {L : List Nat} (h : RowW w g L) (ho : okW L) (o n cap : Nat) (hn : o + n ≤ L.length) (hc : n ≤ cap) : Wrd w w.heap.size (.slice (some ⟨g, o, none⟩) n cap) ((L.drop o).take n) := by
  have hl : ((L.drop o).take n).length = n := by rw [List.length_take, List.length_drop]; omega
  refine ⟨⟨_, cap, by rw [List.length_map, hl], by rw [List.length_map, hl]; exact hc, fun _ => ⟨g, o, rfl, h.lt, ?_⟩⟩, okW_take (okW_drop ho o) n⟩
  intro k x hx
  rw [List.getElem?_map] at hx
  obtain ⟨y, hy, rfl⟩ := Option.map_eq_some_iff.1 hx
  rw [List.getElem?_take] at hy
  split at hy
  · rw [List.getElem?_drop] at hy
    exact h.cell hy
  · cases hy
theorem Tryd.infoW : (Tryd.prog.info? 128).map (fun i => (i.zero, i.size, i.bytes)) = some (some (.int .u64 0), 1, 8) := by kernel_rfl
theorem Tryd.sizeW : (Tryd.prog.info? 128).map (·.size) = some 1 := by kernel_rfl
def zerosW (n : Nat) : List Value := (List.replicate n 0).map u64w
theorem mkW (n : Nat) (hn : n ≤ 35184372088832) (w : World) :
    (Instr.makeSlice 129 (.int .i64 (n : Int)) (.int .i64 (n : Int))).run Tryd.prog w = .ok (.slice (some ⟨w.heap.size, 0, none⟩) n n) (w.alloc (.cells (zerosW n).toArray 128)) := by
  obtain ⟨i0, hi, hz0, hz1, hz2⟩ := info_parts Tryd.infoW
  have h := run_make (P := Tryd.prog) w 129 128 i0 _ Tryd.underlying129 hi hz0 .i64 .i64 n n (by omega) (by omega) (by rw [hz2]; omega) (by omega)
  simp only [Int.toNat_natCast] at h
  rw [hz1, Nat.mul_one] at h
  have e : madeCells (Value.int .u64 0).cells n = (zerosW n).toArray := by
    apply Array.toList_inj.1
    rw [show (Value.int .u64 0).cells = #[Value.int .u64 0] from rfl, toList_madeCells_one]
    simp [zerosW, u64w]
  rw [e] at h
  exact h
theorem RowW.new (w : World) (n : Nat) : RowW (w.alloc (.cells (zerosW n).toArray 128)) w.heap.size (List.replicate n 0) := heap_alloc_new w _
end Go.Proofs.YtlmcafcebidliaaDoor
