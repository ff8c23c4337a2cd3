import Derived.Test.YtmmgbofhbnflkaaIZ
import Derived.OpenShut
namespace Go.Proofs.Ytmmgbofhbnflkaa
open Go.ChangeShapes Go.WideShapes Go.ChangeAt Go.RowKit

theorem array_six {cs : Array Value} (h : cs.size = 6) : ∃ a b c d e f, cs = #[a, b, c, d, e, f] := by
  obtain ⟨l⟩ := cs
  match l, h with
  | [a, b, c, d, e, f], _ => exact ⟨a, b, c, d, e, f, rfl⟩
set_option maxRecDepth 100000 in
/-- A pair, opened: two arrays of two numbers, and two numbers. -/
theorem open_pair {H : Type} {enc : TypeId × Value → H} {w : World} {base : Nat} {sp : Nat → Bool} {held : Bool} {r : Reach} {b0 : Nat} {v : Value} {d : DataW H} {ps : List MemPlace}
    (hv : Value.okWide Try.prog w r b0 41 v) (h : DataW.Trod enc Try.prog w base sp held 41 v d ps) :
    ∃ a b c e x y : Int, v = .agg #[.int .i32 a, .int .i32 b, .int .i32 c, .int .i32 e, .int .u32 x, .int .u32 y] ∧ ps = [] ∧
      (Lit.int .i32 a).wf = true ∧ (Lit.int .i32 b).wf = true ∧ (Lit.int .i32 c).wf = true ∧ (Lit.int .i32 e).wf = true ∧ (Lit.int .u32 x).wf = true ∧ (Lit.int .u32 y).wf = true := by
  obtain ⟨cs, rfl, hsz⟩ := okWide_struct Try.underlying41 hv
  have hC : Try.prog.cellsOf 41 = 6 := by kernel_rfl
  have hA : Try.prog.cellsOf 38 = 2 := by kernel_rfl
  have hI : Try.prog.cellsOf 21 = 1 := by kernel_rfl
  have hU : Try.prog.cellsOf 39 = 1 := by kernel_rfl
  obtain ⟨c0, c1, c2, c3, c4, c5, rfl⟩ := array_six (hsz.trans hC)
  obtain ⟨fuel, hf⟩ := h
  obtain ⟨ys, m, _, hp, _, hl, hfs⟩ := Go.DataW.trod_struct Try.underlying41 hf
  match ys, hl with
  | [y0, y1, y2, y3], _ =>
    have g0 := hfs 0 _ rfl
    have g1 := hfs 1 _ rfl
    have g2 := hfs 2 _ rfl
    have g3 := hfs 3 _ rfl
    simp [Value.cells, hA, hU] at g0 g1 g2 g3
    obtain ⟨zs, m0, _, hz, _, hlz, hzf⟩ := Go.DataW.trod_array Try.underlying38 g0
    obtain ⟨us, m1, _, hu, _, hlu, huf⟩ := Go.DataW.trod_array Try.underlying38 g1
    match zs, hlz, us, hlu with
    | [z0, z1], _, [u0, u1], _ =>
      have k0 := hzf 0 (by omega)
      have k1 := hzf 1 (by omega)
      have k2 := huf 0 (by omega)
      have k3 := huf 1 (by omega)
      simp [hI] at k0 k1 k2 k3
      obtain ⟨a, e0, rfl, s0⟩ := DataW.trod_int Try.underlying21 k0
      obtain ⟨b, e1, rfl, s1⟩ := DataW.trod_int Try.underlying21 k1
      obtain ⟨c, e2, rfl, s2⟩ := DataW.trod_int Try.underlying21 k2
      obtain ⟨e, e3, rfl, s3⟩ := DataW.trod_int Try.underlying21 k3
      obtain ⟨x, e4, rfl, s4⟩ := DataW.trod_int Try.underlying39 g2
      obtain ⟨y, e5, rfl, s5⟩ := DataW.trod_int Try.underlying39 g3
      simp at e0 e1 e2 e3 e4 e5
      subst e0 e1 e2 e3 e4 e5
      subst hz hu
      simp at hp
      exact ⟨a, b, c, e, x, y, rfl, hp.2, s0, s1, s2, s3, s4, s5⟩
end Go.Proofs.Ytmmgbofhbnflkaa
