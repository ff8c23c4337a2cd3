import Derived.Test.YtlababdfdjjjaaaGreatDoorZN
import Derived.Deep.Strs
import Derived.Lib.SmallJoins
namespace Go.Proofs.YtlababdfdjjjaaaGreatDoor
open Go.ChangeShapes Go.WideShapes Go.ChangeAt Go.RowKit

/-! An argument of fractions. -/
set_option maxRecDepth 100000 in
/-- The cell of a number. -/
theorem open_natT {H : Type} {enc : TypeId × Value → H} {W : World} {fuel : Nat} {cs : List Value} {x : DataW H × List MemPlace}
    (hf : DataW.trod enc Tryz.prog W 0 (fun _ => true) true fuel 24 cs = some x) : ∃ (A : Option Addr) (n cap : Nat) (l : List Nat), cs = [.slice A n cap] ∧ l.length = n ∧ n ≤ maxLen ∧ (n ≤ 100000000 → Arg W (.slice A n cap) l) := by
  rcases open_ints Tryz.underlying24 Tryz.underlying64 Tryz.cU32 hf with ⟨hc, _⟩ | ⟨a, len, cap, zs, hc, _, hlc, hcm, hzl, _, hcell, hwf⟩
  · exact ⟨none, 0, 0, [], hc, rfl, by simp [maxLen], fun _ => ⟨⟨⟨none, 0, rfl, by simp, fun h => absurd rfl h⟩, okL_nil⟩, by simp⟩⟩
  · simp only [if_true] at hzl
    have hll : ((zs.take len).map Int.toNat).length = len := by simp; omega
    refine ⟨some a, len, cap, (zs.take len).map Int.toNat, hc, hll, by omega, fun hl => ⟨⟨⟨some a, cap, by rw [List.length_map, hll], by rw [List.length_map, hll]; exact hlc, fun hne => ?_⟩, ?_⟩, by rw [hll]; exact hl⟩⟩
    · have hpos : 0 < len := by
        rcases Nat.eq_zero_or_pos len with h | h
        · subst h; simp at hne
        · exact h
      obtain ⟨b, off, spot⟩ := a
      have hc0 := hcell 0 (by omega)
      have hspot : spot = none := by simpa [Addr.add] using World.cell?_spot hc0
      subst hspot
      refine ⟨b, off, rfl, ?_, ?_⟩
      · have := World.block_lt_of_cell? W _ hc0
        simpa [Addr.add] using this
      · intro k x hk
        rw [List.getElem?_map, List.getElem?_map, List.getElem?_take] at hk
        by_cases hkl : k < len
        · rw [if_pos hkl, List.getElem?_eq_getElem (by omega)] at hk
          have hz := hcell k (by omega)
          have hw := hwf zs[k] (List.getElem_mem _)
          rw [List.getD_eq_getElem?_getD, List.getElem?_eq_getElem (by omega), Option.getD_some] at hz
          simp at hk
          subst hk
          have h0 : 0 ≤ zs[k] := (bounds_u32 hw).1
          unfold u32
          rw [Int.toNat_of_nonneg h0, ← hz, add_of]
        · rw [if_neg hkl] at hk; simp at hk
    · intro x hx
      obtain ⟨z, hz, rfl⟩ := List.mem_map.1 hx
      have hw := hwf z (List.mem_of_mem_take hz)
      have := bounds_u32 hw
      rw [LB_eq]; omega

theorem Tryz.cQuo : Tryz.prog.cellsOf 48 = 3 := by kernel_rfl
theorem Tryz.cQuos : Tryz.prog.cellsOf 50 = 7 := by kernel_rfl
theorem Tryz.cBoo : Tryz.prog.cellsOf 4 = 1 := by kernel_rfl
theorem Tryz.cNat : Tryz.prog.cellsOf 24 = 1 := by kernel_rfl
theorem Tryz.cInte : Tryz.prog.cellsOf 3 = 1 := by kernel_rfl
set_option maxRecDepth 100000 in
theorem open_quo {H : Type} {enc : TypeId × Value → H} {W : World} {fuel : Nat} {cs : List Value} {x : DataW H × List MemPlace}
    (hf : DataW.trod enc Tryz.prog W 0 (fun _ => true) true fuel 48 cs = some x) : ∃ (s : Bool) (A : Option Addr) (n ca : Nat) (B : Option Addr) (m cb : Nat) (ln ld : List Nat), cs = [.bool s, .slice A n ca, .slice B m cb] ∧ n ≤ maxLen ∧ m ≤ maxLen ∧ (n ≤ 100000000 → Arg W (.slice A n ca) ln) ∧ (m ≤ 100000000 → Arg W (.slice B m cb) ld) := by
  obtain ⟨y0, y1, y2, k, -, hl, h0, h1, h2⟩ := Go.Deep.trod_struct3 Tryz.underlying48 hf
  rw [Tryz.cQuo] at hl
  match cs, hl with
  | [a, b, c], _ =>
    simp [Tryz.cBoo, Tryz.cNat] at h0 h1 h2
    obtain ⟨s, hs, _⟩ := DataW.trod_bool Tryz.underlying4 h0
    obtain ⟨A, n, ca, ln, hn, _, hn1, hn2⟩ := open_natT h1
    obtain ⟨B, m, cb, ld, hm, _, hm1, hm2⟩ := open_natT h2
    simp only [List.cons.injEq, and_true] at hs hn hm
    subst hs hn hm
    exact ⟨s, A, n, ca, B, m, cb, ln, ld, rfl, hn1, hm1, hn2, hm2⟩
theorem okWide_str {P : Program} {w : World} {r : Reach} {base : Nat} {t : TypeId} {fs : Array Field} {v : Value} (ht : P.underlying t = some (.struct fs)) (h : Value.okWide P w r base t v) : ∃ cs, v = .agg cs ∧ cs.size = P.cellsOf t := by
  simp only [Value.okWide, ht] at h
  obtain ⟨cs, h1, h2, _⟩ := h
  exact ⟨cs, h1, h2⟩
set_option maxRecDepth 100000 in
theorem open_quos {H : Type} {enc : TypeId × Value → H} {W : World} {base : Nat} {v : Value} {d : DataW H} {p : List MemPlace} (hval : Value.okWide Tryz.prog W .any base 50 v)
    (h : DataW.Trod enc Tryz.prog W 0 (fun _ => true) true 50 v d p) : ∃ (s1 : Bool) (A1 : Option Addr) (n1 a1 : Nat) (B1 : Option Addr) (m1 b1 : Nat) (ln1 ld1 : List Nat) (s2 : Bool) (A2 : Option Addr) (n2 a2 : Nat) (B2 : Option Addr) (m2 b2 : Nat) (ln2 ld2 : List Nat) (k : Int),
      v = .agg #[.bool s1, .slice A1 n1 a1, .slice B1 m1 b1, .bool s2, .slice A2 n2 a2, .slice B2 m2 b2, .int .i64 k] ∧ (n1 ≤ maxLen ∧ m1 ≤ maxLen ∧ (n1 ≤ 100000000 → Arg W (.slice A1 n1 a1) ln1) ∧ (m1 ≤ 100000000 → Arg W (.slice B1 m1 b1) ld1)) ∧ (n2 ≤ maxLen ∧ m2 ≤ maxLen ∧ (n2 ≤ 100000000 → Arg W (.slice A2 n2 a2) ln2) ∧ (m2 ≤ 100000000 → Arg W (.slice B2 m2 b2) ld2)) ∧ -9223372036854775808 ≤ k ∧ k ≤ 9223372036854775807 := by
  obtain ⟨cs, rfl, hsz⟩ := okWide_str Tryz.underlying50 hval
  obtain ⟨fuel, hf⟩ := h
  obtain ⟨y0, y1, y2, j, -, hl, h0, h1, h2⟩ := Go.Deep.trod_struct3 Tryz.underlying50 hf
  rw [Tryz.cQuos] at hsz
  obtain ⟨l⟩ := cs
  match l, hsz with
  | [c0, c1, c2, c3, c4, c5, c6], _ =>
    simp [Value.cells, Tryz.cQuo, Tryz.cInte] at h0 h1 h2
    obtain ⟨s1, A1, n1, a1, B1, m1, b1, ln1, ld1, e1, f1⟩ := open_quo h0
    obtain ⟨s2, A2, n2, a2, B2, m2, b2, ln2, ld2, e2, f2⟩ := open_quo h1
    obtain ⟨k, e3, _, s3⟩ := DataW.trod_int Tryz.underlying3 h2
    simp only [List.cons.injEq, and_true] at e1 e2 e3
    obtain ⟨rfl, rfl, rfl⟩ := e1
    obtain ⟨rfl, rfl, rfl⟩ := e2
    subst e3
    exact ⟨s1, A1, n1, a1, B1, m1, b1, ln1, ld1, s2, A2, n2, a2, B2, m2, b2, ln2, ld2, k, rfl, f1, f2, bounds_i64 s3⟩
end Go.Proofs.YtlababdfdjjjaaaGreatDoor
