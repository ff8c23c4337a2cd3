import Derived.Test.YtdncfignegagjaaDoorRF4
namespace Go.Proofs.YtdncfignegagjaaDoor
open Go.RowKit

theorem neq_ft (a b : Int) (w : World) : (binOp .neq 37 (.agg #[.int .i64 a, .int .i64 b]) (.agg #[.int .i64 a, .int .i64 b])).run Tryd.prog w = .ok (.bool false) w := by
  have h := Tryd.underlying37
  rw [run_neq_struct, run_equalIn_agg]
  · simp [go_sem]
  · kernel_rfl
  · kernel_rfl

set_option maxRecDepth 100000 in
set_option maxHeartbeats 4000000 in
theorem lawFeet_any (n d : Int) (s : ByteArray) (w : World) (hT : Tabs w) (hs : s.size ≤ maxLen) (hn : -9223372036854775808 ≤ n ∧ n ≤ 9223372036854775807) (hd : -9223372036854775808 ≤ d ∧ d ≤ 9223372036854775807) :
    Calls Tryd.prog 6 #[.agg #[.int .i64 n, .int .i64 d], .string s] w fun e w' => e = .returned (.bool true) ∧ Below w.heap.size w w' := by
  have hs0 := hs
  unfold maxLen at hs
  have hb0 : Below w.heap.size w (w.alloc (.cells #[.int .i64 n, .int .i64 d] 37)) := (Below.refl _ _).alloc (Nat.le_refl _) _
  have HT := Lib.hid (hT.below hb0)
  clear hT
  by_cases h : 20000 < s.size
  · go_enter Tryd.func6, Tryd.ntmps6
    go_wp2_with fail
    refine (shown_any _ HT.out).mono ?_
    rintro e w1 ⟨rfl, hb⟩
    go_wp2_with fail
    go_ret
    exact ⟨rfl, hb0.trans (hb.mono hb0.size)⟩
  · have c1 := fun w hT => feet_any n d w hT hn hd
    have c2 := fun w hT => rfeet_any n d w hT hn hd
    have c3 := fun w hT => parseFeet_any s w hT (by omega)
    have c4 := fun w hT => rparseFeet_any s w hT
    have hx1 : (∃ t, feetW n d = (t, 0)) ∨ feetW n d = ([], 2) := by
      cases hf : footB n d
      · exact .inr (feetW_no hf)
      · refine .inl ?_
        unfold feetW
        rw [if_pos hf]
        split
        · exact ⟨_, rfl⟩
        · split <;> exact ⟨_, rfl⟩
    generalize hy : parseFeetW s.data.toList = y at *
    have hy1 : (y.2 = 0 ∧ ∀ w, Tabs w → Calls Tryd.prog 26 #[.agg #[.int .i64 y.1.1, .int .i64 y.1.2]] w fun e w' => e = .returned (strV (s.data.toList, 0)) ∧ Below w.heap.size w w') ∨ y.2 ≠ 0 := by
      by_cases h2 : y.2 = 0
      · refine .inl ⟨h2, fun w hT => ?_⟩
        have h3 := parse_feet (l := s.data.toList) (n := y.1.1) (d := y.1.2) (by rw [hy, ← h2])
        have h4 := footB_bounds (feetW_ok (n := y.1.1) (d := y.1.2) (by rw [h3]))
        have h5 := feet_any y.1.1 y.1.2 w hT (by omega) (by omega)
        rw [h3] at h5
        exact h5
      · exact .inr h2
    clear hy
    obtain ⟨⟨p, q⟩, e2⟩ := y
    have C3 := Lib.hid c3
    have C4 := Lib.hid c4
    simp only [pfV] at C3 C4
    clear c3 c4
    rcases hx1 with ⟨t, hx1⟩ | hx1
    · obtain ⟨D, hD⟩ : ∃ D : ByteArray, D = ⟨t.toArray⟩ := ⟨_, rfl⟩
      obtain rfl : t = D.data.toList := by rw [hD]
      rw [hx1] at c1 c2
      have hbk := back hx1
      have hDs : D.size ≤ 10 := by rw [← len_eq]; exact hbk.2
      have c5 := fun w hT => parseFeet_any D w hT (by omega)
      rw [hbk.1] at c5
      have C1 := Lib.hid c1
      have C2 := Lib.hid c2
      have C5 := Lib.hid c5
      simp only [strV, pfV] at C1 C2 C5
      clear c1 c2 c5 hbk hx1 hD
      rcases hy1 with ⟨hy1, hy2⟩ | hy1
      · simp only at hy1
        subst hy1
        have C6 := Lib.hid hy2
        clear hy2
        simp only [strV] at C6
        go_enter Tryd.func6, Tryd.ntmps6
        go_wp2_with fail
        refine (C1.out _ HT.out).mono ?_
        rintro e w1 ⟨rfl, hb1⟩
        obtain ⟨k0, k1, _, _, klt⟩ := new2 hb1
        go_wp2_with fail
        refine (C2.out _ (HT.out.below hb1)).mono ?_
        rintro e w2 ⟨rfl, hb2⟩
        have hb2 := hb1.trans (hb2.mono hb1.size)
        go_wp2_with fail
        refine (C3.out _ (HT.out.below hb2)).mono ?_
        rintro e w3 ⟨rfl, hb3⟩
        have hb3 := hb2.trans (hb3.mono hb2.size)
        go_wp2_with fail
        have hb3' := hb3.alloc hb3.size (.cells #[.int .i64 p, .int .i64 q] 37)
        refine (C4.out _ (HT.out.below hb3')).mono ?_
        rintro e w4 ⟨rfl, hb4⟩
        obtain ⟨m0, m1, _, _, mlt⟩ := new2 hb4
        have hb4 := hb3'.trans (hb4.mono hb3'.size)
        obtain ⟨k0, k1, _, _, klt⟩ := new2 hb4
        have hb4' := hb4.alloc hb4.size (.cells #[.int .i64 p, .int .i64 q] 37)
        have hq := neq_ft p q
        go_wp2_with fail
        have hba : Below w4.heap.size w4 (w4.alloc (.cells #[.int .i64 p, .int .i64 q] 37)) := (Below.refl _ _).alloc (Nat.le_refl _) _
        refine (C5.out _ (HT.out.below hb4')).mono ?_
        rintro e w5 ⟨rfl, hb5⟩
        have m0 := cell_later hb5 (cell_later hba m0)
        have m1 := cell_later hb5 (cell_later hba m1)
        have mlt5 : w3.heap.size < w5.heap.size := Nat.lt_of_lt_of_le mlt (Nat.le_trans hba.size hb5.size)
        have hb5 := hb4'.trans (hb5.mono hb4'.size)
        obtain ⟨k0, k1, _, _, klt⟩ := new2 hb5
        have hb5' := hb5.alloc hb5.size (.cells #[.int .i64 n, .int .i64 d] 37)
        have hq2 := neq_ft n d
        go_wp2_with fail
        refine (C6.out _ (HT.out.below hb5')).mono ?_
        rintro e w6 ⟨rfl, hb6⟩
        have hb6 := hb5'.trans (hb6.mono hb5'.size)
        go_wp2_with fail
        refine (shown_any _ (HT.out.below hb6)).mono ?_
        rintro e w7 ⟨rfl, hb7⟩
        have hb7 := hb6.trans (hb7.mono hb6.size)
        go_wp2_with fail
        go_ret
        exact ⟨by simp, hb0.trans (hb7.mono hb0.size)⟩
      · have q1 : (e2 == 0) = false := beq_false_of_ne hy1
        have q2 : (e2 != 0) = true := by simp only [bne, q1]; rfl
        clear hy1
        go_enter Tryd.func6, Tryd.ntmps6
        go_wp2_with fail
        refine (C1.out _ HT.out).mono ?_
        rintro e w1 ⟨rfl, hb1⟩
        obtain ⟨k0, k1, _, _, klt⟩ := new2 hb1
        go_wp2_with fail
        refine (C2.out _ (HT.out.below hb1)).mono ?_
        rintro e w2 ⟨rfl, hb2⟩
        have hb2 := hb1.trans (hb2.mono hb1.size)
        go_wp2_with fail
        refine (C3.out _ (HT.out.below hb2)).mono ?_
        rintro e w3 ⟨rfl, hb3⟩
        have hb3 := hb2.trans (hb3.mono hb2.size)
        go_wp2_with fail
        have hb3' := hb3.alloc hb3.size (.cells #[.int .i64 p, .int .i64 q] 37)
        refine (C4.out _ (HT.out.below hb3')).mono ?_
        rintro e w4 ⟨rfl, hb4⟩
        obtain ⟨m0, m1, _, _, mlt⟩ := new2 hb4
        have hb4 := hb3'.trans (hb4.mono hb3'.size)
        obtain ⟨k0, k1, _, _, klt⟩ := new2 hb4
        have hb4' := hb4.alloc hb4.size (.cells #[.int .i64 p, .int .i64 q] 37)
        have hq := neq_ft p q
        go_wp2_with fail
        have hba : Below w4.heap.size w4 (w4.alloc (.cells #[.int .i64 p, .int .i64 q] 37)) := (Below.refl _ _).alloc (Nat.le_refl _) _
        refine (C5.out _ (HT.out.below hb4')).mono ?_
        rintro e w5 ⟨rfl, hb5⟩
        have m0 := cell_later hb5 (cell_later hba m0)
        have m1 := cell_later hb5 (cell_later hba m1)
        have mlt5 : w3.heap.size < w5.heap.size := Nat.lt_of_lt_of_le mlt (Nat.le_trans hba.size hb5.size)
        have hb5 := hb4'.trans (hb5.mono hb4'.size)
        obtain ⟨k0, k1, _, _, klt⟩ := new2 hb5
        have hb5' := hb5.alloc hb5.size (.cells #[.int .i64 n, .int .i64 d] 37)
        have hq2 := neq_ft n d
        go_wp2_with fail
        refine (shown_any _ (HT.out.below hb5')).mono ?_
        rintro e w7 ⟨rfl, hb7⟩
        have hb7 := hb5'.trans (hb7.mono hb5'.size)
        go_wp2_with fail
        go_ret
        exact ⟨by simp, hb0.trans (hb7.mono hb0.size)⟩
    · rw [hx1] at c1 c2
      have C1 := Lib.hid c1
      have C2 := Lib.hid c2
      simp only [strV] at C1 C2
      clear c1 c2 hx1
      rcases hy1 with ⟨hy1, hy2⟩ | hy1
      · simp only at hy1
        subst hy1
        have C6 := Lib.hid hy2
        clear hy2
        simp only [strV] at C6
        go_enter Tryd.func6, Tryd.ntmps6
        go_wp2_with fail
        refine (C1.out _ HT.out).mono ?_
        rintro e w1 ⟨rfl, hb1⟩
        obtain ⟨k0, k1, _, _, klt⟩ := new2 hb1
        go_wp2_with fail
        refine (C2.out _ (HT.out.below hb1)).mono ?_
        rintro e w2 ⟨rfl, hb2⟩
        have hb2 := hb1.trans (hb2.mono hb1.size)
        go_wp2_with fail
        refine (C3.out _ (HT.out.below hb2)).mono ?_
        rintro e w3 ⟨rfl, hb3⟩
        have hb3 := hb2.trans (hb3.mono hb2.size)
        go_wp2_with fail
        have hb3' := hb3.alloc hb3.size (.cells #[.int .i64 p, .int .i64 q] 37)
        refine (C4.out _ (HT.out.below hb3')).mono ?_
        rintro e w4 ⟨rfl, hb4⟩
        obtain ⟨m0, m1, _, _, mlt⟩ := new2 hb4
        have hb4 := hb3'.trans (hb4.mono hb3'.size)
        obtain ⟨k0, k1, _, _, klt⟩ := new2 hb4
        have hb4' := hb4.alloc hb4.size (.cells #[.int .i64 p, .int .i64 q] 37)
        have hq := neq_ft p q
        go_wp2_with fail
        refine (C6.out _ (HT.out.below hb4')).mono ?_
        rintro e w6 ⟨rfl, hb6⟩
        have hb6 := hb4'.trans (hb6.mono hb4'.size)
        go_wp2_with fail
        refine (shown_any _ (HT.out.below hb6)).mono ?_
        rintro e w7 ⟨rfl, hb7⟩
        have hb7 := hb6.trans (hb7.mono hb6.size)
        go_wp2_with fail
        go_ret
        exact ⟨by simp, hb0.trans (hb7.mono hb0.size)⟩
      · have q1 : (e2 == 0) = false := beq_false_of_ne hy1
        have q2 : (e2 != 0) = true := by simp only [bne, q1]; rfl
        clear hy1
        go_enter Tryd.func6, Tryd.ntmps6
        go_wp2_with fail
        refine (C1.out _ HT.out).mono ?_
        rintro e w1 ⟨rfl, hb1⟩
        obtain ⟨k0, k1, _, _, klt⟩ := new2 hb1
        go_wp2_with fail
        refine (C2.out _ (HT.out.below hb1)).mono ?_
        rintro e w2 ⟨rfl, hb2⟩
        have hb2 := hb1.trans (hb2.mono hb1.size)
        go_wp2_with fail
        refine (C3.out _ (HT.out.below hb2)).mono ?_
        rintro e w3 ⟨rfl, hb3⟩
        have hb3 := hb2.trans (hb3.mono hb2.size)
        go_wp2_with fail
        have hb3' := hb3.alloc hb3.size (.cells #[.int .i64 p, .int .i64 q] 37)
        refine (C4.out _ (HT.out.below hb3')).mono ?_
        rintro e w4 ⟨rfl, hb4⟩
        obtain ⟨m0, m1, _, _, mlt⟩ := new2 hb4
        have hb4 := hb3'.trans (hb4.mono hb3'.size)
        obtain ⟨k0, k1, _, _, klt⟩ := new2 hb4
        have hb4' := hb4.alloc hb4.size (.cells #[.int .i64 p, .int .i64 q] 37)
        have hq := neq_ft p q
        go_wp2_with fail
        refine (shown_any _ (HT.out.below hb4')).mono ?_
        rintro e w7 ⟨rfl, hb7⟩
        have hb7 := hb4'.trans (hb7.mono hb4'.size)
        go_wp2_with fail
        go_ret
        exact ⟨by simp, hb0.trans (hb7.mono hb0.size)⟩
end Go.Proofs.YtdncfignegagjaaDoor
