import Derived.Test.YtdncfignegagjaaDoorR2b
namespace Go.Proofs.YtdncfignegagjaaDoor
open Go.RowKit

theorem mixW_bounds (l : List UInt8) : 0 ≤ (mixW l).1.1 ∧ (mixW l).1.1 ≤ 1000 ∧ 0 ≤ (mixW l).1.2 ∧ (mixW l).1.2 ≤ 15 := by
  unfold mixW
  simp only
  split
  · simp
  · rename_i h
    simp only [ne_eq, not_or, Decidable.not_not] at h
    have ba := intW_bounds h.1
    have bb := intW_bounds h.2.1
    have bc := intW_bounds h.2.2
    have h0 : 0 ≤ (intW (mixParts l).1 0 64).1 * (intW (Lib.cut (mixParts l).2 [47]).2.1 1 15).1 := Int.mul_nonneg (by omega) (by omega)
    have h1 : (intW (mixParts l).1 0 64).1 * (intW (Lib.cut (mixParts l).2 [47]).2.1 1 15).1 ≤ 64 * 15 := Int.mul_le_mul (by omega) (by omega) (by omega) (by omega)
    simp only; omega
def parseFeetW (l : List UInt8) : (Int × Int) × Int :=
  if (mixW l).2 = false then ((0, 0), 6)
  else if (feetW (mixW l).1.1 (mixW l).1.2).2 ≠ 0 ∨ (feetW (mixW l).1.1 (mixW l).1.2).1 ≠ l then ((0, 0), 6) else ((mixW l).1, 0)
def pfV (x : (Int × Int) × Int) : Value := .tuple #[.agg #[.int .i64 x.1.1, .int .i64 x.1.2], .int .i64 x.2]

set_option maxHeartbeats 2000000 in
set_option maxRecDepth 100000 in
theorem parseFeet_any (s : ByteArray) (w : World) (hT : Tabs w) (hs : s.size ≤ 1000000) :
    Calls Tryd.prog 28 #[.string s] w fun e w' => e = .returned (pfV (parseFeetW s.data.toList)) ∧ Below w.heap.size w w' := by
  have hb0 : Below w.heap.size w (w.alloc (.cells #[.int .i64 0, .int .i64 0] 37)) := (Below.refl _ _).alloc (Nat.le_refl _) _
  have HT0 := Lib.hid (hT.below hb0)
  have hbd := mixW_bounds s.data.toList
  have hm := fun w hT => mix_any s w hT hs
  have hpf : parseFeetW s.data.toList = if (mixW s.data.toList).2 = false then ((0, 0), 6)
    else if (feetW (mixW s.data.toList).1.1 (mixW s.data.toList).1.2).2 ≠ 0 ∨ (feetW (mixW s.data.toList).1.1 (mixW s.data.toList).1.2).1 ≠ s.data.toList then ((0, 0), 6) else ((mixW s.data.toList).1, 0) := rfl
  generalize hx : mixW s.data.toList = x at *
  obtain ⟨⟨num, den⟩, ok⟩ := x
  simp only [mixV] at hm hbd hpf
  have HM := Lib.hid hm
  have HP := Lib.hid hpf
  clear hm hpf hx hT
  cases ok
  · have hf := Lib.hid (show parseFeetW s.data.toList = ((0, 0), 6) by rw [HP.out]; simp)
    go_enter Tryd.func28, Tryd.ntmps28
    go_wp2_with fail
    refine (HM.out _ HT0.out).mono ?_
    rintro e w1 ⟨rfl, hb1⟩
    obtain ⟨c0, c1, f0, f1, hlt⟩ := new2 hb1
    have hbf := hb0.trans (hb1.mono hb0.size)
    go_wp2_with fail
    refine bodyPost_ret (v := .tuple #[.agg #[.int .i64 0, .int .i64 0], .int .i64 6]) (by simp [results, Tryd.results28, c0, c1, hlt, go_sem]) rfl ⟨?_, ?_⟩
    · rw [hf.out]; rfl
    · first
        | exact ((hbf.setCell (p := ⟨w.heap.size, 0, none⟩) (Nat.le_refl _) _).setCell (p := ⟨w.heap.size, 1, none⟩) (Nat.le_refl _) _).alloc (by simp; omega) _
        | exact ((hbf.alloc hbf.size _).setCell (p := ⟨w.heap.size, 0, none⟩) (Nat.le_refl _) _).setCell (p := ⟨w.heap.size, 1, none⟩) (Nat.le_refl _) _
  · have hft := fun w hT => feet_any num den w hT (by omega) (by omega)
    generalize hy : feetW num den = y at *
    obtain ⟨txt, er⟩ := y
    simp only [strV] at hft
    have HF := Lib.hid hft
    clear hft hy
    by_cases her : er = 0
    · subst her
      by_cases htx : txt = s.data.toList
      · have hf := Lib.hid (show parseFeetW s.data.toList = ((num, den), 0) by rw [HP.out]; simp [htx])
        have q1 : (txt == s.toList) = true := by rw [toL]; simp [htx]
        clear htx HP
        go_enter Tryd.func28, Tryd.ntmps28
        go_wp2_with fail
        refine (HM.out _ HT0.out).mono ?_
        rintro e w1 ⟨rfl, hb1⟩
        obtain ⟨c0, c1, f0, f1, hlt⟩ := new2 hb1
        have hbf := hb0.trans (hb1.mono hb0.size)
        have hTa := Lib.hid ((HT0.out.below hb1).below ((Below.refl w1.heap.size w1).alloc (Nat.le_refl _) (.cells #[.int .i64 num, .int .i64 den] 37)))
        go_wp2_with fail
        refine (HF.out _ hTa.out).mono ?_
        rintro e w3 ⟨rfl, hb3⟩
        obtain ⟨g0, g1, _, _, hlt3⟩ := new2 hb3
        have hb13 : Below w1.heap.size w1 w3 := ((Below.refl w1.heap.size w1).alloc (Nat.le_refl _) _).trans (hb3.mono (by simp))
        have c0 := cell_later hb13 c0
        have c1 := cell_later hb13 c1
        have f0 := (hb13.frozen (p := ⟨w.heap.size, 0, none⟩) hlt).trans f0
        have f1 := (hb13.frozen (p := ⟨w.heap.size, 1, none⟩) hlt).trans f1
        go_wp2_with fail
        refine bodyPost_ret (v := .tuple #[.agg #[.int .i64 num, .int .i64 den], .int .i64 0]) (by simp [results, Tryd.results28, c0, c1, go_sem]) rfl ⟨?_, ?_⟩
        · rw [hf.out]; rfl
        · exact ((hbf.trans (hb13.mono hbf.size)).setCell (p := ⟨w.heap.size, 0, none⟩) (Nat.le_refl _) _).setCell (p := ⟨w.heap.size, 1, none⟩) (Nat.le_refl _) _
      · have hf := Lib.hid (show parseFeetW s.data.toList = ((0, 0), 6) by rw [HP.out]; simp [htx])
        have q1 : (txt == s.toList) = false := by rw [toL]; simp [htx]
        clear htx HP
        go_enter Tryd.func28, Tryd.ntmps28
        go_wp2_with fail
        refine (HM.out _ HT0.out).mono ?_
        rintro e w1 ⟨rfl, hb1⟩
        obtain ⟨c0, c1, f0, f1, hlt⟩ := new2 hb1
        have hbf := hb0.trans (hb1.mono hb0.size)
        have hTa := Lib.hid ((HT0.out.below hb1).below ((Below.refl w1.heap.size w1).alloc (Nat.le_refl _) (.cells #[.int .i64 num, .int .i64 den] 37)))
        go_wp2_with fail
        refine (HF.out _ hTa.out).mono ?_
        rintro e w3 ⟨rfl, hb3⟩
        have hb13 : Below w1.heap.size w1 w3 := ((Below.refl w1.heap.size w1).alloc (Nat.le_refl _) _).trans (hb3.mono (by simp))
        have c0 := cell_later hb13 c0
        have c1 := cell_later hb13 c1
        have f0 := (hb13.frozen (p := ⟨w.heap.size, 0, none⟩) hlt).trans f0
        have f1 := (hb13.frozen (p := ⟨w.heap.size, 1, none⟩) hlt).trans f1
        go_wp2_with fail
        refine bodyPost_ret (v := .tuple #[.agg #[.int .i64 0, .int .i64 0], .int .i64 6]) (by simp [results, Tryd.results28, c0, c1, go_sem]) rfl ⟨?_, ?_⟩
        · rw [hf.out]; rfl
        · exact ((hbf.trans (hb13.mono hbf.size)).setCell (p := ⟨w.heap.size, 0, none⟩) (Nat.le_refl _) _).setCell (p := ⟨w.heap.size, 1, none⟩) (Nat.le_refl _) _
    · have hf := Lib.hid (show parseFeetW s.data.toList = ((0, 0), 6) by rw [HP.out]; simp [her])
      have q1 : (er == 0) = false := by simp [her]
      have q2 : (er != 0) = true := by simp [her]
      clear her HP
      go_enter Tryd.func28, Tryd.ntmps28
      go_wp2_with fail
      refine (HM.out _ HT0.out).mono ?_
      rintro e w1 ⟨rfl, hb1⟩
      obtain ⟨c0, c1, f0, f1, hlt⟩ := new2 hb1
      have hbf := hb0.trans (hb1.mono hb0.size)
      have hTa := Lib.hid ((HT0.out.below hb1).below ((Below.refl w1.heap.size w1).alloc (Nat.le_refl _) (.cells #[.int .i64 num, .int .i64 den] 37)))
      go_wp2_with fail
      refine (HF.out _ hTa.out).mono ?_
      rintro e w3 ⟨rfl, hb3⟩
      have hb13 : Below w1.heap.size w1 w3 := ((Below.refl w1.heap.size w1).alloc (Nat.le_refl _) _).trans (hb3.mono (by simp))
      have c0 := cell_later hb13 c0
      have c1 := cell_later hb13 c1
      have f0 := (hb13.frozen (p := ⟨w.heap.size, 0, none⟩) hlt).trans f0
      have f1 := (hb13.frozen (p := ⟨w.heap.size, 1, none⟩) hlt).trans f1
      go_wp2_with fail
      refine bodyPost_ret (v := .tuple #[.agg #[.int .i64 0, .int .i64 0], .int .i64 6]) (by simp [results, Tryd.results28, c0, c1, go_sem]) rfl ⟨?_, ?_⟩
      · rw [hf.out]; rfl
      · exact ((hbf.trans (hb13.mono hbf.size)).setCell (p := ⟨w.heap.size, 0, none⟩) (Nat.le_refl _) _).setCell (p := ⟨w.heap.size, 1, none⟩) (Nat.le_refl _) _
end Go.Proofs.YtdncfignegagjaaDoor
