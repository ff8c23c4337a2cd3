import Derived.Test.YtlababdfdjjjaaaGreatDoorT0
import Derived.Test.YtlababdfdjjjaaaGreatDoorNH
import Derived.Carry
import Derived.ProofKit
import Derived.Deep.DeepHandedRow
import Derived.Deep.SlicePairs
namespace Go.Proofs.YtlababdfdjjjaaaGreatDoor
open Go.ChangeShapes Go.WideShapes Go.ChangeAt Go.RowKit


/-! Arguments. -/
theorem bounds_u32 {n : Int} (h : (Lit.int .u32 n).wf = true) : 0 ≤ n ∧ n ≤ 4294967295 := by
  simpa [Lit.wf, IntKind.min, IntKind.max, IntKind.signed, IntKind.bits] using h
theorem bounds_u8 {n : Int} (h : (Lit.int .u8 n).wf = true) : 0 ≤ n ∧ n ≤ 255 := by
  simpa [Lit.wf, IntKind.min, IntKind.max, IntKind.signed, IntKind.bits] using h
theorem bounds_i64 {n : Int} (h : (Lit.int .i64 n).wf = true) : -9223372036854775808 ≤ n ∧ n ≤ 9223372036854775807 := by
  simpa [Lit.wf, IntKind.min, IntKind.max, IntKind.signed, IntKind.bits] using h
theorem bounds_u64 {n : Int} (h : (Lit.int .u64 n).wf = true) : 0 ≤ n ∧ n ≤ 18446744073709551615 := by
  simpa [Lit.wf, IntKind.min, IntKind.max, IntKind.signed, IntKind.bits] using h
theorem Tryz.cU32 : Tryz.prog.cellsOf 64 = 1 := by kernel_rfl
set_option maxRecDepth 100000 in
/-- An argument that is a number. -/
theorem open_nat {H : Type} {enc : TypeId × Value → H} {W : World} {base : Nat} {v : Value} {d : DataW H} {p : List MemPlace} (hval : Value.okWide Tryz.prog W .any base 24 v)
    (h : DataW.Trod enc Tryz.prog W 0 (fun _ => true) true 24 v d p) : ∃ (A : Option Addr) (n cap : Nat) (l : List Nat), v = .slice A n cap ∧ l.length = n ∧ n ≤ maxLen ∧ (n ≤ 100000000 → Arg W v l) := by
  obtain ⟨a', len', cap', rfl⟩ := okWide_slice Tryz.underlying24 hval
  obtain ⟨fuel, hf⟩ := h
  rcases open_ints Tryz.underlying24 Tryz.underlying64 Tryz.cU32 hf with ⟨hc, _⟩ | ⟨a, len, cap, zs, hc, _, hlc, hcm, hzl, _, hcell, hwf⟩
  · have e : (Value.slice a' len' cap') = .slice none 0 0 := by simpa [Value.cells] using hc
    rw [e]
    exact ⟨none, 0, 0, [], rfl, rfl, by simp [maxLen], fun _ => ⟨⟨⟨none, 0, rfl, by simp, fun h => absurd rfl h⟩, okL_nil⟩, by simp⟩⟩
  · have e : (Value.slice a' len' cap') = .slice (some a) len cap := by simpa [Value.cells] using hc
    rw [e]
    simp only [if_true] at hzl
    have hll : ((zs.take len).map Int.toNat).length = len := by simp; omega
    refine ⟨some a, len, cap, (zs.take len).map Int.toNat, rfl, hll, by omega, fun hl => ⟨⟨⟨some a, cap, by rw [List.length_map, hll], by rw [List.length_map, hll]; exact hlc, fun hne => ?_⟩, ?_⟩, by rw [hll]; exact hl⟩⟩
    · have hpos : 0 < len := by
        rcases Nat.eq_zero_or_pos len with h | h
        · subst h; simp at hne
        · exact h
      obtain ⟨b, off, spot⟩ := a
      have hc0 := hcell 0 (by omega)
      have hspot : spot = none := by simpa [Addr.add] using World.cell?_spot hc0
      subst hspot
      refine ⟨b, off, rfl, ?_, ?_⟩
      · have := World.block_lt_of_cell? W _ hc0
        simpa [Addr.add] using this
      · intro k x hk
        rw [List.getElem?_map, List.getElem?_map, List.getElem?_take] at hk
        by_cases hkl : k < len
        · rw [if_pos hkl, List.getElem?_eq_getElem (by omega)] at hk
          have hz := hcell k (by omega)
          have hw := hwf zs[k] (List.getElem_mem _)
          rw [List.getD_eq_getElem?_getD, List.getElem?_eq_getElem (by omega), Option.getD_some] at hz
          simp at hk
          subst hk
          have h0 : 0 ≤ zs[k] := (bounds_u32 hw).1
          unfold u32
          rw [Int.toNat_of_nonneg h0, ← hz, add_of]
        · rw [if_neg hkl] at hk; simp at hk
    · intro x hx
      obtain ⟨z, hz, rfl⟩ := List.mem_map.1 hx
      have hw := hwf z (List.mem_of_mem_take hz)
      have := bounds_u32 hw
      rw [LB_eq]; omega
end Go.Proofs.YtlababdfdjjjaaaGreatDoor
