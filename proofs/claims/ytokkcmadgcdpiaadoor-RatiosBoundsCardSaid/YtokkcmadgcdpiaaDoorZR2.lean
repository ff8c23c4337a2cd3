import Derived.Test.YtokkcmadgcdpiaaDoorZR
namespace Go.Proofs.YtokkcmadgcdpiaaDoor
open Go.ChangeShapes Go.WideShapes Go.ChangeAt Go.RowKit Go.Deep

theorem array_two {cs : Array Value} (h : cs.size = 2) : ∃ a b, cs = #[a, b] := by
  obtain ⟨l⟩ := cs
  match l, h with
  | [a, b], _ => exact ⟨a, b, rfl⟩
theorem okWide_arr2 {P : Program} {w : World} {r : Reach} {base n : Nat} {t e : TypeId} {v : Value} (ht : P.underlying t = some (.array n e)) (h : Value.okWide P w r base t v) : ∃ cs, v = .agg cs ∧ cs.size = P.cellsOf t := by
  simp only [Value.okWide, ht] at h
  obtain ⟨cs, h1, h2, _⟩ := h
  exact ⟨cs, h1, h2⟩
set_option maxRecDepth 100000 in
/-- An array of two numbers, opened. -/
theorem open_two {H : Type} {enc : TypeId × Value → H} {w : World} {base : Nat} {sp : Nat → Bool} {held : Bool} {r : Reach} {b0 : Nat} {v : Value} {d : DataW H} {ps : List MemPlace}
    (hv : Value.okWide Tryd.prog w r b0 42 v) (h : DataW.Trod enc Tryd.prog w base sp held 42 v d ps) :
    ∃ a b : Int, v = .agg #[.int .i64 a, .int .i64 b] := by
  obtain ⟨cs, rfl, hsz⟩ := okWide_arr2 Tryd.underlying42 hv
  have hC : Tryd.prog.cellsOf 42 = 2 := by kernel_rfl
  have hI : Tryd.prog.cellsOf 3 = 1 := by kernel_rfl
  obtain ⟨c0, c1, rfl⟩ := array_two (hsz.trans hC)
  obtain ⟨fuel, hf⟩ := h
  obtain ⟨zs, m0, _, hz, _, hlz, hzf⟩ := Go.DataW.trod_array Tryd.underlying42 hf
  match zs, hlz with
  | [z0, z1], _ =>
    have k0 := hzf 0 (by omega)
    have k1 := hzf 1 (by omega)
    simp [Value.cells, hI] at k0 k1
    obtain ⟨a, e0, rfl, s0⟩ := DataW.trod_int Tryd.underlying3 k0
    obtain ⟨b, e1, rfl, s1⟩ := DataW.trod_int Tryd.underlying3 k1
    simp at e0 e1
    subst e0 e1
    exact ⟨a, b, rfl⟩
end Go.Proofs.YtokkcmadgcdpiaaDoor
