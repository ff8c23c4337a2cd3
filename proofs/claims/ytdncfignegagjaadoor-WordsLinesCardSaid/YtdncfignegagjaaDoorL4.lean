import Derived.Test.YtdncfignegagjaaDoorL3
namespace Go.Proofs.YtdncfignegagjaaDoor
open Go.RowKit

theorem linesW_len (l : List UInt8) : (linesW l).1.length ≤ l.length := by
  unfold linesW
  have : (cutL [] l).length ≤ l.length := by rw [cutL_count]; exact List.count_le_length
  split
  · simp
  · split
    · simp
    · split
      · simp
      · exact this
theorem strV1_get {ls : List (List UInt8)} {k : Nat} (h : k < ls.length) : ∃ x : ByteArray, (ls.map strV1)[k]? = some (.string x) := ⟨_, by rw [List.getElem?_map, List.getElem?_eq_getElem h]; rfl⟩

set_option maxRecDepth 100000 in
set_option maxHeartbeats 1000000 in
/-- The law WordsLines. -/
theorem lawLines_any (s : ByteArray) (w : World) (hT : Tabs w) (hs : s.size ≤ maxLen) :
    Calls Tryd.prog 10 #[.string s] w fun e w' => e = .returned (.bool true) ∧ Below w.heap.size w w' := by
  unfold maxLen at hs
  have HT := Lib.hid hT
  clear hT
  by_cases h : 1048676 < s.size
  · go_enter Tryd.func10, Tryd.ntmps10
    go_wp2_with fail
    refine (shown_any _ HT.out).mono ?_
    rintro e w1 ⟨rfl, hb⟩
    go_wp2_with fail
    go_ret
    exact ⟨rfl, hb⟩
  have hlen := linesW_len s.data.toList
  rw [len_eq] at hlen
  have c1 := fun w hT => lines_any s w hT (by omega)
  have c2 := fun w => rlines_any s w (by omega)
  generalize linesW s.data.toList = x at *
  obtain ⟨ls, er⟩ := x
  have C1 := Lib.hid c1
  have C2 := Lib.hid c2
  simp only at hlen
  have hl2 : ls.length ≤ 2000000 := by omega
  clear c1 c2 hlen
  go_enter Tryd.func10, Tryd.ntmps10
  go_wp2_with fail
  refine (C1.out _ HT.out).mono ?_
  rintro e w1 ⟨v1, rfl, hown1, hb1⟩
  have hs1 := SlC.of_own hown1
  obtain ⟨A, cap, rfl, -⟩ := hs1.form
  rw [List.length_map] at hs1
  have HS1 := Lib.hid hs1
  clear hs1 hown1
  simp only [List.length_map]
  go_wp2_with fail
  refine (C2.out _).mono ?_
  rintro e w2 ⟨v2, rfl, hown2, hb2⟩
  have hs2 := SlC.of_own hown2
  obtain ⟨A2, cap2, rfl, -⟩ := hs2.form
  rw [List.length_map] at hs2
  have HS2 := Lib.hid hs2
  have HS1' := Lib.hid (HS1.out.below hb2)
  have hb2 := hb1.trans (hb2.mono hb1.size)
  clear hs2 hown2 HS1
  simp only [List.length_map]
  go_wp2_with fail
  go_loopw [7] (fun i wr => ∃ k : Nat, k ≤ ls.length ∧ i = .int .i64 k ∧ Drawn w2 wr) (fun i _ => ls.length - (intOf i).toNat)
  case atStart => exact ⟨0, Nat.zero_le _, rfl, 0, rfl⟩
  case round =>
    obtain ⟨k, hk, rfl, hdr⟩ := hrel
    by_cases hlt : k < ls.length
    · obtain ⟨x, hx⟩ := strV1_get hlt
      obtain ⟨g, o, rfl, hg, c0⟩ := HS1'.out.cell hx
      obtain ⟨g', o', rfl, hg', d0⟩ := HS2.out.cell hx
      obtain ⟨m, rfl⟩ := hdr
      have hbb := below_drewN w2 m
      have hw12 : g < w2.heap.size := World.block_lt_of_cell? w2 _ c0
      have c0 := (hbb.cell (p := ⟨g, o + k, none⟩) hw12).trans c0
      have d0 := (hbb.cell (p := ⟨g', o' + k, none⟩) hg').trans d0
      have i1 : (0 : Int) ≤ (k : Int) := Int.natCast_nonneg _
      have i2 : (k : Int) < (ls.length : Int) := by omega
      clear hx hbb
      go_wp2
      go_quiet (fail)
      go_wp2
      go_roundw
      case rel => exact ⟨k + 1, by omega, by go_num, _, by first | rfl | exact drewN_drewN _ _ _⟩
      case measure => simp [intOf]; omega
    · go_wp2_with fail
      refine (shown_any _ (HT.out.below (hb2.trans (hdr.below.mono hb2.size)))).mono ?_
      rintro e w3 ⟨rfl, hb3⟩
      have hb3' := hb2.trans ((hdr.below.trans (hb3.mono hdr.below.size)).mono hb2.size)
      go_wp2_with fail
      go_ret
      exact ⟨rfl, hb3'⟩
end Go.Proofs.YtdncfignegagjaaDoor
