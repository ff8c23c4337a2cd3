import Derived.Test.YtlmcafcebidliaaDoorZT
namespace Go.Proofs.YtlmcafcebidliaaDoor
open Go.ChangeShapes Go.WideShapes Go.ChangeAt Go.RowKit Go.Deep

theorem array_three {cs : Array Value} (h : cs.size = 3) : ∃ a b c, cs = #[a, b, c] := by
  obtain ⟨l⟩ := cs
  match l, h with
  | [a, b, c], _ => exact ⟨a, b, c, rfl⟩
theorem okWide_arr3 {P : Program} {w : World} {r : Reach} {base n : Nat} {t e : TypeId} {v : Value} (ht : P.underlying t = some (.array n e)) (h : Value.okWide P w r base t v) : ∃ cs, v = .agg cs ∧ cs.size = P.cellsOf t := by
  simp only [Value.okWide, ht] at h
  obtain ⟨cs, h1, h2, _⟩ := h
  exact ⟨cs, h1, h2⟩
theorem u8_nat {n : Int} (h : (Lit.int .u8 n).wf = true) : ∃ a : Nat, n = (a : Int) ∧ a < 256 := by
  have h2 : 0 ≤ n ∧ n < 256 := by
    simp only [Lit.wf, Bool.and_eq_true, decide_eq_true_eq] at h
    have h0 : IntKind.u8.min = 0 := by decide
    have h1 : IntKind.u8.max = 255 := by decide
    rw [h0, h1] at h
    omega
  exact ⟨n.toNat, by omega, by omega⟩
set_option maxRecDepth 100000 in
/-- An array of three small numbers, opened. -/
theorem open_three {H : Type} {enc : TypeId × Value → H} {w : World} {base : Nat} {sp : Nat → Bool} {held : Bool} {r : Reach} {b0 : Nat} {v : Value} {d : DataW H} {ps : List MemPlace}
    (hv : Value.okWide Tryd.prog w r b0 48 v) (h : DataW.Trod enc Tryd.prog w base sp held 48 v d ps) :
    ∃ a b c : Nat, v = .agg #[.int .u8 (a : Int), .int .u8 (b : Int), .int .u8 (c : Int)] ∧ a < 256 ∧ b < 256 ∧ c < 256 := by
  obtain ⟨cs, rfl, hsz⟩ := okWide_arr3 Tryd.underlying48 hv
  have hC : Tryd.prog.cellsOf 48 = 3 := by kernel_rfl
  have hI : Tryd.prog.cellsOf 5 = 1 := by kernel_rfl
  obtain ⟨c0, c1, c2, rfl⟩ := array_three (hsz.trans hC)
  obtain ⟨fuel, hf⟩ := h
  obtain ⟨zs, m0, _, hz, _, hlz, hzf⟩ := Go.DataW.trod_array Tryd.underlying48 hf
  match zs, hlz with
  | [z0, z1, z2], _ =>
    have k0 := hzf 0 (by omega)
    have k1 := hzf 1 (by omega)
    have k2 := hzf 2 (by omega)
    simp [Value.cells, hI] at k0 k1 k2
    obtain ⟨a, e0, rfl, s0⟩ := DataW.trod_int Tryd.underlying5 k0
    obtain ⟨b, e1, rfl, s1⟩ := DataW.trod_int Tryd.underlying5 k1
    obtain ⟨c, e2, rfl, s2⟩ := DataW.trod_int Tryd.underlying5 k2
    simp at e0 e1 e2
    subst e0 e1 e2
    obtain ⟨a', rfl, ha⟩ := u8_nat s0
    obtain ⟨b', rfl, hb⟩ := u8_nat s1
    obtain ⟨c', rfl, hc⟩ := u8_nat s2
    exact ⟨a', b', c', rfl, ha, hb, hc⟩
end Go.Proofs.YtlmcafcebidliaaDoor
