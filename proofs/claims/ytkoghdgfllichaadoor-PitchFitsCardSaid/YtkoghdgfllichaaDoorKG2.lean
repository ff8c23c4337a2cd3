import Derived.Test.YtkoghdgfllichaaDoorKC5
namespace Go.Proofs.YtkoghdgfllichaaDoor
open Go.RowKit

theorem TmI.up {w w' : World} {v : Value} {l : List (Int × Int)} (h : TmI w w.heap.size v l) (hb : Below w.heap.size w w') : TmI w' w'.heap.size v l := by
  obtain ⟨A, cap, e, hc, hh⟩ := h.keep hb
  refine ⟨A, cap, e, hc, fun hne => ?_⟩
  obtain ⟨g, o, e2, hg, hx⟩ := hh hne
  exact ⟨g, o, e2, Nat.lt_of_lt_of_le hg hb.size, hx⟩
end Go.Proofs.YtkoghdgfllichaaDoor
