import Derived.Test.YtkoghdgfllichaaDoorRows
import Derived.Test.YtkoghdgfllichaaDoorTie
import Derived.WalkKit
import Derived.WalkSpells
import Derived.WalkLawsBesides
import Derived.OpenShut
import Derived.Lib.Hide
import Derived.Lib.SmallJoins
import Derived.BigQuiet
import Derived.Deep.QuietTactic
import Derived.Deep.RegionHeld3
import Derived.Deep.AppendLies
import Derived.Maps.AppendAt
import Derived.Laws.OwnMore
import Derived.Deep.Draws
import Derived.IntWalk
namespace Go.Proofs.YtkoghdgfllichaaDoor
open Go.RowKit

theorem ret_bool {a b : Bool} (h : a = b) : Ending.returned (.bool a) = .returned (.bool b) := by rw [h]
theorem ret_str {a b : ByteArray} (h : a = b) : Ending.returned (.string a) = .returned (.string b) := by rw [h]
theorem ret_int {k : IntKind} {a b : Int} (h : a = b) : Ending.returned (.int k a) = .returned (.int k b) := by rw [h]
theorem ret_val {a b : Value} (h : a = b) : Ending.returned a = .returned b := by rw [h]

theorem below_drewN (W : World) (n : Nat) : Below W.heap.size W (W.drewN n) := by
  induction n with
  | zero => exact Below.refl _ _
  | succ n ih => exact ih.drew
theorem below_grow (w : World) (os : Array Obj) : Below w.heap.size w (Go.Sort.grow w os) where
  os := rfl
  tape := rfl
  output := rfl
  size := by simp [Go.Sort.grow]
  block := fun k hk => by
    show (w.heap ++ os)[k]? = w.heap[k]?
    rw [Array.getElem?_append_left hk]
theorem below_drewN_grow (w : World) (k : Nat) (os : Array Obj) : Below w.heap.size w (Go.Sort.grow (w.drewN k) os) :=
  (below_drewN w k).trans ((below_grow (w.drewN k) os).mono (below_drewN w k).size)
theorem drewN_drewN (w : World) (a b : Nat) : (w.drewN a).drewN b = w.drewN (a + b) := World.drewN_drewN _ _ _
def Drawn (w w' : World) : Prop := ∃ n, w' = w.drewN n
theorem Drawn.below {w w' : World} (h : Drawn w w') : Below w.heap.size w w' := by obtain ⟨n, rfl⟩ := h; exact below_drewN w n
theorem Drawn.refl (w : World) : Drawn w w := ⟨0, rfl⟩
theorem Drawn.trans {w w1 w2 : World} (h : Drawn w w1) (h' : Drawn w1 w2) : Drawn w w2 := by
  obtain ⟨a, rfl⟩ := h; obtain ⟨b, rfl⟩ := h'; exact ⟨a + b, drewN_drewN _ _ _⟩
theorem Drawn.size {w w' : World} (h : Drawn w w') : w'.heap.size = w.heap.size := by
  obtain ⟨n, rfl⟩ := h; rfl
theorem add_eq (g j : Nat) : (⟨g, 0, none⟩ : Addr).add j = ⟨g, j, none⟩ := by
  unfold Addr.add; by_cases h : j = 0 <;> simp [h]
theorem grownBy_of_below {W W' : World} (h : Below W.heap.size W W') : W.grownBy W' none := ⟨h.os, h.tape, h.output, h.size, fun k hk _ => h.block k hk⟩
theorem own_ge {w1 : World} {e : TypeId} {size n : Nat} {v : Value} {xs : List Value} {base : Nat} (h : w1.ownsRow base e size v n xs) : ∀ j, v.ownBlock = some j → base ≤ j := fun j hj => (h.lt j hj).1
theorem take_snoc' {α : Type} (xs : List α) (k : Nat) (x : α) (h : xs[k]? = some x) : xs.take (k + 1) = xs.take k ++ [x] := by
  rw [List.take_add_one, h]; rfl

/-- The slice value v reads as these cells, an element a cell, in a block below B. -/
def SlC (w : World) (B : Nat) (v : Value) (cs : List Value) : Prop :=
  ∃ A cap, v = .slice A cs.length cap ∧ cs.length ≤ cap ∧ (cs ≠ [] → ∃ g o, A = some ⟨g, o, none⟩ ∧ g < B ∧ ∀ k x, cs[k]? = some x → w.cell? ⟨g, o + k, none⟩ = some x)
theorem SlC.of_own {w : World} {base : Nat} {t : TypeId} {v : Value} {cs : List Value} {n : Nat} (h : w.ownsRow base t 1 v n cs) : SlC w w.heap.size v cs := by
  have hl : cs.length = n := by have := h.1; omega
  subst hl
  rcases h.2 with ⟨rfl, h0⟩ | ⟨g, cap, cur, rfl, _, _, hc, _⟩
  · exact ⟨none, 0, by rw [h0], by omega, fun hne => absurd (List.eq_nil_of_length_eq_zero h0) hne⟩
  · refine ⟨_, cap, rfl, hc, fun hne => ⟨g, 0, rfl, ?_, ?_⟩⟩
    · have hpos : 0 < cs.length := List.length_pos_iff.2 hne
      obtain ⟨g', cap', e, _, hlt⟩ := h.form hpos
      cases e; exact hlt
    · intro k x hx
      have c1 := h.cells (g := g) rfl _ _ hx
      rw [add_eq] at c1
      simpa using c1
theorem SlC.keep {w w' : World} {B : Nat} {v : Value} {cs : List Value} (h : SlC w B v cs) (hk : ∀ g i, g < B → w'.cell? ⟨g, i, none⟩ = w.cell? ⟨g, i, none⟩) : SlC w' B v cs := by
  obtain ⟨A, cap, rfl, hc, h⟩ := h
  refine ⟨A, cap, rfl, hc, fun hne => ?_⟩
  obtain ⟨g, o, rfl, hg, hx⟩ := h hne
  exact ⟨g, o, rfl, hg, fun k x hk' => (hk g _ hg).trans (hx k x hk')⟩
theorem SlC.below {w w' : World} {B : Nat} {v : Value} {cs : List Value} (h : SlC w B v cs) (hb : Below B w w') : SlC w' B v cs := h.keep fun g i hg => hb.cell (p := ⟨g, i, none⟩) hg
theorem SlC.more {w : World} {B B' : Nat} {v : Value} {cs : List Value} (h : SlC w B v cs) (hB : B ≤ B') : SlC w B' v cs := by
  obtain ⟨A, cap, rfl, hc, h⟩ := h
  exact ⟨A, cap, rfl, hc, fun hne => let ⟨g, o, e, hg, hx⟩ := h hne; ⟨g, o, e, by omega, hx⟩⟩
theorem SlC.up {w w' : World} {v : Value} {cs : List Value} (h : SlC w w.heap.size v cs) (hb : Below w.heap.size w w') : SlC w' w'.heap.size v cs := (h.below hb).more hb.size
theorem SlC.nil (w : World) (B c : Nat) (A : Option Addr) : SlC w B (.slice A 0 c) [] := ⟨A, c, rfl, Nat.zero_le _, fun h => absurd rfl h⟩
theorem SlC.cell {w : World} {B : Nat} {A : Option Addr} {n cap : Nat} {cs : List Value} (h : SlC w B (.slice A n cap) cs) {k : Nat} {x : Value} (hx : cs[k]? = some x) :
    ∃ g o, A = some ⟨g, o, none⟩ ∧ g < B ∧ w.cell? ⟨g, o + k, none⟩ = some x := by
  obtain ⟨A', cap', e, _, h⟩ := h
  cases e
  obtain ⟨g, o, rfl, hg, hh⟩ := h (by rintro rfl; simp at hx)
  exact ⟨g, o, rfl, hg, hh k x hx⟩
theorem SlC.form {w : World} {B : Nat} {v : Value} {cs : List Value} (h : SlC w B v cs) : ∃ A cap, v = .slice A cs.length cap ∧ cs.length ≤ cap := by
  obtain ⟨A, cap, e, hc, _⟩ := h; exact ⟨A, cap, e, hc⟩
/-- The first elements. -/
theorem SlC.take {w : World} {B : Nat} {A : Option Addr} {n cap : Nat} {cs : List Value} (h : SlC w B (.slice A n cap) cs) (k : Nat) (hk : k ≤ n) : SlC w B (.slice A k cap) (cs.take k) := by
  obtain ⟨A', cap', e, hc, h⟩ := h
  cases e
  refine ⟨A, cap, by rw [List.length_take, Nat.min_eq_left hk], by rw [List.length_take]; omega, fun hne => ?_⟩
  have hne' : cs ≠ [] := by rintro rfl; simp at hne
  obtain ⟨g, o, rfl, hg, hh⟩ := h hne'
  refine ⟨g, o, rfl, hg, fun j x hx => hh j x ?_⟩
  rw [List.getElem?_take] at hx
  split at hx
  · exact hx
  · cases hx
theorem grownBy_trans {a b c : World} {row : Option Nat} (h : a.grownBy b row) (k : b.grownBy c row) : a.grownBy c row :=
  ⟨k.os.trans h.os, k.tape.trans h.tape, k.output.trans h.output, Nat.le_trans h.size k.size, fun i hi hne => (k.block i (Nat.lt_of_lt_of_le hi h.size) hne).trans (h.block i hi hne)⟩
theorem grownBy_refl (a : World) (row : Option Nat) : a.grownBy a row := ⟨rfl, rfl, rfl, Nat.le_refl _, fun _ _ _ => rfl⟩
theorem grownBy_drewN (a : World) (row : Option Nat) (n : Nat) : a.grownBy (a.drewN n) row := by
  have h := below_drewN a n
  exact ⟨h.os, h.tape, h.output, h.size, fun i hi _ => h.block i hi⟩
theorem grownBy_set {a w : World} {g : Nat} (h : a.grownBy w (some g)) (i : Nat) (u : Value) : a.grownBy (w.setCell ⟨g, i, none⟩ u) (some g) :=
  ⟨h.os, h.tape, h.output, by simpa [World.setCell] using h.size, fun j hj hne => (Below.heap_setCell w ⟨g, i, none⟩ u j (by rintro rfl; exact hne rfl)).trans (h.block j hj hne)⟩
/-- A call's own block may turn. -/
theorem below_of_grown {B : Nat} {w0 w w' : World} {g : Nat} (h : Below B w0 w) (hg : w.grownBy w' (some g)) (hB : B ≤ g) (hBw : B ≤ w.heap.size) : Below B w0 w' :=
  h.grown hg hBw (fun k e => by cases e; exact hB)
theorem SlC.grown {w w' : World} {B g : Nat} {v : Value} {cs : List Value} (h : SlC w B v cs) (hg : w.grownBy w' (some g)) (hB : B ≤ g) (hBw : B ≤ w.heap.size) : SlC w' B v cs :=
  h.keep fun b i hb => World.cell?_of_block (a := ⟨b, i, none⟩) (hg.block b (by omega) (fun e => by cases e; omega))
end Go.Proofs.YtkoghdgfllichaaDoor
