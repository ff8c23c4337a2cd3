import Derived.Test.YtkoghdgfllichaaDoorKA4
import Derived.Deep.AppendLies
import Derived.WalkSmall
namespace Go.Proofs.YtkoghdgfllichaaDoor
open Go.RowKit

def encT (l : List (Nat × Int)) : List Value := l.flatMap fun x => [.int .i64 (x.1 : Int), .int .i64 x.2]
theorem encT_append (l r : List (Nat × Int)) : encT (l ++ r) = encT l ++ encT r := by simp [encT]
theorem encT_len (l : List (Nat × Int)) : (encT l).length = l.length * 2 := by
  induction l with
  | nil => rfl
  | cons x r ih =>
    have e : encT (x :: r) = [.int .i64 (x.1 : Int), .int .i64 x.2] ++ encT r := rfl
    rw [e, List.length_append, ih]; simp; omega
theorem encT_at : ∀ (l : List (Nat × Int)) (k : Nat) (x : Nat × Int), l[k]? = some x → (encT l)[k * 2]? = some (.int .i64 (x.1 : Int)) ∧ (encT l)[k * 2 + 1]? = some (.int .i64 x.2)
  | [], k, x, h => by simp at h
  | y :: r, 0, x, h => by
    simp at h; subst h
    exact ⟨rfl, rfl⟩
  | y :: r, k + 1, x, h => by
    have ih := encT_at r k x (by simpa using h)
    have e : ∀ j, (encT (y :: r))[2 + j]? = (encT r)[j]? := fun j => by
      show ([Value.int .i64 (y.1 : Int), .int .i64 y.2] ++ encT r)[2 + j]? = _
      rw [List.getElem?_append_right (by simp)]
      simp
    rw [show (k + 1) * 2 = 2 + k * 2 by omega, show 2 + k * 2 + 1 = 2 + (k * 2 + 1) by omega, e, e]
    exact ih
theorem one_encT (l : List (Nat × Int)) : ∀ u ∈ encT l, u.oneCell' = true := by
  intro u hu
  simp only [encT, List.mem_flatMap] at hu
  obtain ⟨x, _, hx⟩ := hu
  simp at hx
  rcases hx with rfl | rfl <;> rfl
theorem Tryd.infoT : (Tryd.prog.info? 75).map (fun i => (i.zero, i.size, i.bytes)) = some (some (.agg #[.int .i64 0, .int .i64 0]), 2, 16) := by kernel_rfl
/-- A row of terms that the call owns. -/
def RowT (w : World) (B : Nat) (v : Value) (l : List (Nat × Int)) : Prop := w.ownsRow B 75 2 v l.length (encT l)
theorem RowT.nil (w : World) (B : Nat) : RowT w B (.slice none 0 0) [] := World.ownsRow_nil _ _ _ _
theorem RowT.keep {w w' : World} {B : Nat} {v : Value} {l : List (Nat × Int)} (h : RowT w B v l) (hk : ∀ g, v.ownBlock = some g → w'.heap[g]? = w.heap[g]?) : RowT w' B v l := by
  refine ⟨h.1, ?_⟩
  rcases h.2 with h0 | ⟨g, cap, cur, hv, hb, hg, hr⟩
  · exact .inl h0
  · exact .inr ⟨g, cap, cur, hv, hb, (hk g (by rw [hv]; rfl)).trans hg, hr⟩
theorem RowT.up {w w' : World} {B : Nat} {v : Value} {l : List (Nat × Int)} (h : RowT w B v l) (hb : Below w.heap.size w w') : RowT w' B v l := h.keep fun g hg => hb.block g (h.lt g hg).2
theorem RowT.grown {w w' : World} {B : Nat} {v : Value} {l : List (Nat × Int)} {row : Option Nat} (h : RowT w B v l) (hg : w.grownBy w' row) (hne : ∀ g, v.ownBlock = some g → row ≠ some g) : RowT w' B v l :=
  h.keep fun g e => hg.block g (h.lt g e).2 (fun e2 => hne g e e2.symm)
theorem RowT.form {w : World} {B : Nat} {v : Value} {l : List (Nat × Int)} (h : RowT w B v l) : ∃ A cap, v = .slice A l.length cap ∧ l.length ≤ cap ∧ cap ≤ maxLen ∧ ((A = none ∧ l.length = 0 ∧ cap = 0) ∨ ∃ g, A = some ⟨g, 0, none⟩ ∧ B ≤ g ∧ g < w.heap.size ∧ ∀ k x, l[k]? = some x → w.cell? ⟨g, k * 2, none⟩ = some (.int .i64 (x.1 : Int)) ∧ w.cell? ⟨g, k * 2 + 1, none⟩ = some (.int .i64 x.2)) := by
  rcases h.2 with ⟨hv, h0⟩ | ⟨g, cap, cur, hv, hb, hg, hn, hc, _⟩
  · exact ⟨none, 0, by rw [hv, h0], by omega, by unfold maxLen; omega, .inl ⟨rfl, h0, rfl⟩⟩
  · refine ⟨_, cap, hv, hn, hc, .inr ⟨g, rfl, hb, (h.lt g (by rw [hv]; rfl)).2, fun k x hx => ?_⟩⟩
    obtain ⟨e1, e2⟩ := encT_at l k x hx
    have c := World.ownsRow.cells h (g := g) (by rw [hv]; rfl)
    have c1 := c _ _ e1
    have c2 := c _ _ e2
    rw [add_eq] at c1 c2
    exact ⟨c1, c2⟩
/-- The last term taken off. -/
theorem RowT.pop {w : World} {B g cap : Nat} {l : List (Nat × Int)} {x : Nat × Int} (h : RowT w B (.slice (some ⟨g, 0, none⟩) (l.length + 1) cap) (l ++ [x])) : RowT w B (.slice (some ⟨g, 0, none⟩) l.length cap) l := by
  have h' : w.ownsRow B 75 2 (.slice (some ⟨g, 0, none⟩) (l.length + 1) cap) (l.length + 1) (encT l ++ encT [x]) := by
    have h2 := h
    unfold RowT at h2
    rw [encT_append, List.length_append] at h2
    exact h2
  exact ownsRow_pop (encT_len l) h'
/-- The first k terms. -/
theorem RowT.take {w : World} {B g cap : Nat} {l : List (Nat × Int)} (h : RowT w B (.slice (some ⟨g, 0, none⟩) l.length cap) l) (k : Nat) (hk : k ≤ l.length) : RowT w B (.slice (some ⟨g, 0, none⟩) k cap) (l.take k) := by
  have hl : (l.take k).length = k := by rw [List.length_take]; omega
  refine ⟨by rw [encT_len, hl], .inr ?_⟩
  rcases h.2 with ⟨hv, h0⟩ | ⟨g', cap', cur, hv, hb, hg, hn, hc, hs, ht⟩
  · cases hv
  · cases hv
    refine ⟨g, cap, cur, by rw [hl], hb, hg, by omega, hc, hs, ?_⟩
    rw [hl]
    have e : encT l = encT (l.take k) ++ encT (l.drop k) := by rw [← encT_append, List.take_append_drop]
    rw [e] at ht
    have h3 : (cur.toList.take (l.length * 2)).take (k * 2) = encT (l.take k) := by
      rw [ht]
      have h4 : (encT (l.take k)).length = k * 2 := by rw [encT_len, hl]
      rw [← h4]
      exact take_len _ _
    rw [List.take_take, Nat.min_eq_left (by omega)] at h3
    exact h3
theorem append_terms {ops : Array Oper} {rest : List Oper} {o : Oper} {a : Act} {Q : Exit → Act → World → Prop} {w : World} {B : Nat} (hgd : o.guard = none) (s x : Operand)
    (ho : o.op = .call { callee := .builtin .append, args := #[s, x], argTypes := #[69, 69] }) {v : Value} {l r : List (Nat × Int)} (hs : a.eval s = v) (hown : RowT w B v l)
    (g o' c : Nat) (hx : a.eval x = .slice (some ⟨g, o', none⟩) r.length c) (hcells : ∀ k y, r[k]? = some y → w.cell? ⟨g, o' + k * 2, none⟩ = some (.int .i64 (y.1 : Int)) ∧ w.cell? ⟨g, o' + k * 2 + 1, none⟩ = some (.int .i64 y.2))
    (hm : 0 < r.length) (hn : l.length + r.length ≤ 1000000) (hbase : B ≤ w.heap.size)
    (h : ∀ g' cap w', RowT w' B (.slice (some ⟨g', 0, none⟩) (l.length + r.length) cap) (l ++ r) → w.grownBy w' v.ownBlock → (v.ownBlock = some g' ∨ g' = w.heap.size) → g' < w'.heap.size → wpList Tryd.prog ops Q rest (a.put o.dst (.slice (some ⟨g', 0, none⟩) (l.length + r.length) cap)) w') :
    wpList Tryd.prog ops Q (o :: rest) a w := by
  obtain ⟨i0, hi0, hz0, hz1, hz2⟩ := info_parts Tryd.infoT
  refine wpList_append_lies _ hgd s x 69 ho B 75 i0 _ 2 16 Tryd.underlying69 hi0 hz0 hz1 hz2 rfl (by decide) v l.length (encT l) hs hown ⟨g, o', none⟩ r.length c (encT r) hx (encT_len r) ?_ (one_encT r) hm (by unfold maxLen; omega) (by omega) hbase _ rfl ?_
  · intro j u hu
    have hj : j < (encT r).length := (List.getElem?_eq_some_iff.1 hu).1
    rw [encT_len] at hj
    obtain ⟨y, hy⟩ : ∃ y, r[j / 2]? = some y := ⟨r[j / 2]'(by omega), List.getElem?_eq_getElem (by omega)⟩
    obtain ⟨e1, e2⟩ := encT_at r _ y hy
    obtain ⟨c1, c2⟩ := hcells _ y hy
    have ea : (⟨g, o', none⟩ : Addr).add j = ⟨g, o' + j, none⟩ := by unfold Addr.add; split <;> simp_all
    rw [ea]
    rcases Nat.mod_two_eq_zero_or_one j with hm2 | hm2
    · have : j / 2 * 2 = j := by omega
      rw [this] at e1 c1
      rw [e1] at hu
      cases hu
      exact c1
    · have h1 : j / 2 * 2 + 1 = j := by omega
      have h2 : o' + j / 2 * 2 + 1 = o' + j := by omega
      rw [h1] at e2
      rw [h2] at c2
      rw [e2] at hu
      cases hu
      exact c2
  · intro g' cap w' h2 h3 h4 h5
    refine h g' cap w' ?_ h3 h4 h5
    unfold RowT
    rw [List.length_append, encT_append]
    exact h2
end Go.Proofs.YtkoghdgfllichaaDoor
