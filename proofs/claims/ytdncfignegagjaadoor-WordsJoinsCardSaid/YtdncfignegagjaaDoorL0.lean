import Derived.Test.YtdncfignegagjaaDoorW15
import Derived.Maps.AppendAt
import Derived.Laws.OwnMore
namespace Go.Proofs.YtdncfignegagjaaDoor
open Go.RowKit

/-- The slice value v reads as these cells, an element a cell, in a block below B. -/
def SlC (w : World) (B : Nat) (v : Value) (cs : List Value) : Prop :=
  ∃ A cap, v = .slice A cs.length cap ∧ cs.length ≤ cap ∧ (cs ≠ [] → ∃ g o, A = some ⟨g, o, none⟩ ∧ g < B ∧ ∀ k x, cs[k]? = some x → w.cell? ⟨g, o + k, none⟩ = some x)
theorem SlC.of_own {w : World} {base : Nat} {t : TypeId} {v : Value} {cs : List Value} {n : Nat} (h : w.ownsRow base t 1 v n cs) : SlC w w.heap.size v cs := by
  have hl : cs.length = n := by have := h.1; omega
  subst hl
  rcases h.2 with ⟨rfl, h0⟩ | ⟨g, cap, cur, rfl, _, _, hc, _⟩
  · exact ⟨none, 0, by rw [h0], by omega, fun hne => absurd (List.eq_nil_of_length_eq_zero h0) hne⟩
  · refine ⟨_, cap, rfl, hc, fun hne => ⟨g, 0, rfl, ?_, ?_⟩⟩
    · have hpos : 0 < cs.length := List.length_pos_iff.2 hne
      obtain ⟨g', cap', e, _, hlt⟩ := h.form hpos
      cases e; exact hlt
    · intro k x hx
      have c1 := h.cells (g := g) rfl _ _ hx
      rw [add_eq] at c1
      simpa using c1
theorem SlC.below {w w' : World} {B : Nat} {v : Value} {cs : List Value} (h : SlC w B v cs) (hb : Below B w w') : SlC w' B v cs := by
  obtain ⟨A, cap, rfl, hc, h⟩ := h
  refine ⟨A, cap, rfl, hc, fun hne => ?_⟩
  obtain ⟨g, o, rfl, hg, hx⟩ := h hne
  exact ⟨g, o, rfl, hg, fun k x hk => (hb.cell (p := ⟨g, _, none⟩) hg).trans (hx k x hk)⟩
theorem SlC.more {w : World} {B B' : Nat} {v : Value} {cs : List Value} (h : SlC w B v cs) (hB : B ≤ B') : SlC w B' v cs := by
  obtain ⟨A, cap, rfl, hc, h⟩ := h
  exact ⟨A, cap, rfl, hc, fun hne => let ⟨g, o, e, hg, hx⟩ := h hne; ⟨g, o, e, by omega, hx⟩⟩
theorem SlC.nil (w : World) (B c : Nat) (A : Option Addr) : SlC w B (.slice A 0 c) [] := ⟨A, c, rfl, Nat.zero_le _, fun h => absurd rfl h⟩
/-- The cell at a place. -/
theorem SlC.cell {w : World} {B : Nat} {A : Option Addr} {n cap : Nat} {cs : List Value} (h : SlC w B (.slice A n cap) cs) {k : Nat} {x : Value} (hx : cs[k]? = some x) :
    ∃ g o, A = some ⟨g, o, none⟩ ∧ g < B ∧ w.cell? ⟨g, o + k, none⟩ = some x := by
  obtain ⟨A', cap', e, _, h⟩ := h
  cases e
  obtain ⟨g, o, rfl, hg, hh⟩ := h (by rintro rfl; simp at hx)
  exact ⟨g, o, rfl, hg, hh k x hx⟩
theorem SlC.form {w : World} {B : Nat} {v : Value} {cs : List Value} (h : SlC w B v cs) : ∃ A cap, v = .slice A cs.length cap ∧ cs.length ≤ cap := by
  obtain ⟨A, cap, e, hc, _⟩ := h; exact ⟨A, cap, e, hc⟩
end Go.Proofs.YtdncfignegagjaaDoor
