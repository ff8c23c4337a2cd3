import Derived.Test.YtokkcmadgcdpiaaDoorZR2
import Derived.Test.YtokkcmadgcdpiaaDoorKAA
import Derived.Deep.SlicePairs
namespace Go.Proofs.YtokkcmadgcdpiaaDoor
open Go.ChangeShapes Go.WideShapes Go.ChangeAt Go.RowKit Go.Deep

/-! An argument that is a row of terms, opened. -/
set_option maxRecDepth 100000 in
theorem open_termsC {H : Type} {enc : TypeId × Value → H} {w : World} {base : Nat} {sp : Nat → Bool} {held : Bool} {r : Reach} {b0 : Nat} {v : Value} {d : DataW H} {ps : List MemPlace}
    (hv : Value.okWide Tryd.prog w r b0 22 v) (h : DataW.Trod enc Tryd.prog w base sp held 22 v d ps) :
    ∃ (A : Option Addr) (n cap : Nat) (l : List (Int × Int)), v = .slice A n cap ∧ TmI w w.heap.size (.slice A n cap) l ∧ (A = none → cap = 0) := by
  obtain ⟨a', len', cap', rfl⟩ := okWide_slice Tryd.underlying22 hv
  obtain ⟨fuel, hf⟩ := h
  rcases open_slice_pairs Tryd.underlying22 Tryd.underlying63 (by kernel_rfl) rfl rfl (by kernel_rfl) (by kernel_rfl) hf with ⟨hc, _⟩ | ⟨a, len, cap, m, k, V0, V1, D0, D1, P0, P1, hc, _, hlc, hcm, hm, _, hall⟩
  · have e : (Value.slice a' len' cap') = .slice none 0 0 := by simpa [Value.cells] using hc
    rw [e]
    exact ⟨none, 0, 0, [], rfl, ⟨none, 0, rfl, Nat.le_refl _, fun h => absurd rfl h⟩, fun _ => rfl⟩
  · have e : (Value.slice a' len' cap') = .slice (some a) len cap := by simpa [Value.cells] using hc
    rw [e]
    have hlm : len ≤ m := by rw [hm]; split <;> omega
    refine ⟨some a, len, cap, (List.range len).map fun i => (intOf (V0 i), intOf (V1 i)), rfl, ⟨some a, cap, by simp, by simpa using hlc, fun hne => ?_⟩, fun h => by cases h⟩
    have hpos : 0 < len := by
      rcases Nat.eq_zero_or_pos len with h | h
      · subst h; simp at hne
      · exact h
    obtain ⟨b, off, spot⟩ := a
    have hc0 := (hall 0 (by omega)).1
    have hspot : spot = none := by simpa [Addr.add] using World.cell?_spot hc0
    subst hspot
    refine ⟨b, off, rfl, ?_, fun i x hi => ?_⟩
    · have := World.block_lt_of_cell? w _ hc0
      simpa [Addr.add] using this
    · rw [List.getElem?_map] at hi
      by_cases hil : i < len
      · rw [List.getElem?_range hil] at hi
        simp only [Option.map_some, Option.some.injEq] at hi
        subst hi
        obtain ⟨k0, k1, t0, t1⟩ := hall i (by omega)
        obtain ⟨x0, e0, -⟩ := DataW.trod_int Tryd.underlying2 t0
        obtain ⟨x1, e1, -⟩ := DataW.trod_int Tryd.underlying2 t1
        simp at e0 e1
        rw [e0] at k0 ⊢
        rw [e1] at k1 ⊢
        rw [add_plain] at k0 k1
        exact ⟨k0, k1⟩
      · rw [List.getElem?_eq_none (by simpa using hil)] at hi
        cases hi
end Go.Proofs.YtokkcmadgcdpiaaDoor
