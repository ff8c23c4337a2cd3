import Derived.Test.YtdncfignegagjaaDoorRN2
namespace Go.Proofs.YtdncfignegagjaaDoor
open Go.RowKit

set_option maxRecDepth 100000 in
/-- A written note is read back. -/
theorem parse_note_all : ∀ n : Fin 128, parseNoteW (noteW n.val).1 = ((n.val : Int), 0) := by decide +kernel
theorem note_len (n : Int) : (noteW n).1.length ≤ 1000 := by
  unfold noteW
  split
  · have h1 := nmL_len (n.toNat % 12)
    have h2 := Lib.itoa_length_le (((n.toNat / 12 : Nat) : Int) - 1) (by omega) (by omega)
    simp only [List.length_append, List.getD_eq_getElem?_getD]
    omega
  · simp

set_option maxRecDepth 100000 in
set_option maxHeartbeats 2000000 in
theorem lawNotes_any (n : Int) (s : ByteArray) (w : World) (hT : Tabs w) (hs : s.size ≤ maxLen) :
    Calls Tryd.prog 5 #[.int .i64 n, .string s] w fun e w' => e = .returned (.bool true) ∧ Below w.heap.size w w' := by

  unfold maxLen at hs
  have HT := Lib.hid hT
  clear hT
  by_cases h : 20000 < s.size
  · go_enter Tryd.func5, Tryd.ntmps5
    go_wp2_with fail
    refine (shown_any _ HT.out).mono ?_
    rintro e w1 ⟨rfl, hb⟩
    go_wp2_with fail
    go_ret
    exact ⟨rfl, hb⟩
  · have c1 := fun w hT => noteS_any n w hT
    have c2 := fun w => rnote_any n w
    have c3 := fun w hT => parseNote_any s w hT (by omega)
    have c4 := fun w => rparseNote_any s w
    generalize parseNoteW s.data.toList = x at *
    obtain ⟨c, g⟩ := x
    simp only [intV] at c3 c4
    have C3 := Lib.hid c3
    have C4 := Lib.hid c4
    by_cases hn : 0 ≤ n ∧ n ≤ 127
    · obtain ⟨A, hA⟩ : ∃ A : ByteArray, A = ⟨(noteW n).1.toArray⟩ := ⟨_, rfl⟩
      have hAl : (noteW n).1 = A.data.toList := by rw [hA]
      have hAs : A.size ≤ 1000 := by rw [← len_eq, ← hAl]; exact note_len n
      have h0 : (noteW n).2 = 0 := by unfold noteW; rw [if_pos hn]
      have hnw : noteW n = (A.data.toList, 0) := by rw [← hAl, ← h0]
      have c5 := fun w hT => parseNote_any A w hT (by omega)
      obtain ⟨m, rfl⟩ : ∃ m : Nat, n = (m : Int) := ⟨n.toNat, by omega⟩
      have hp := parse_note_all ⟨m, by omega⟩
      simp only at hp
      rw [hAl] at hp
      rw [hp] at c5
      rw [hnw] at c1 c2
      simp only [strV, intV] at c1 c2 c5
      have C1 := Lib.hid c1
      have C2 := Lib.hid c2
      have C5 := Lib.hid c5
      clear c1 c2 c3 c4 c5 hA hAl h0 hnw hp
      go_enter Tryd.func5, Tryd.ntmps5
      go_wp2_with fail
      refine (C1.out _ HT.out).mono ?_
      rintro e w1 ⟨rfl, hb1⟩
      go_wp2_with fail
      refine (C2.out _).mono ?_
      rintro e w2 ⟨rfl, hb2⟩
      have hb2 := hb1.trans (hb2.mono hb1.size)
      go_wp2_with fail
      refine (C3.out _ (HT.out.below hb2)).mono ?_
      rintro e w3 ⟨rfl, hb3⟩
      have hb3 := hb2.trans (hb3.mono hb2.size)
      go_wp2_with fail
      refine (C4.out _).mono ?_
      rintro e w4 ⟨rfl, hb4⟩
      have hb4 := hb3.trans (hb4.mono hb3.size)
      go_wp2_with fail
      refine (C5.out _ (HT.out.below hb4)).mono ?_
      rintro e w5 ⟨rfl, hb5⟩
      have hb5 := hb4.trans (hb5.mono hb4.size)
      go_wp2_with fail
      refine (shown_any _ (HT.out.below hb5)).mono ?_
      rintro e w7 ⟨rfl, hb7⟩
      have hb7 := hb5.trans (hb7.mono hb5.size)
      go_wp2_with fail
      go_ret
      exact ⟨by simp, hb7⟩
    · have hnw : noteW n = ([], 7) := by unfold noteW; rw [if_neg hn]
      rw [hnw] at c1 c2
      simp only [strV] at c1 c2
      have C1 := Lib.hid c1
      have C2 := Lib.hid c2
      clear c1 c2 c3 c4 hnw hn
      go_enter Tryd.func5, Tryd.ntmps5
      go_wp2_with fail
      refine (C1.out _ HT.out).mono ?_
      rintro e w1 ⟨rfl, hb1⟩
      go_wp2_with fail
      refine (C2.out _).mono ?_
      rintro e w2 ⟨rfl, hb2⟩
      have hb2 := hb1.trans (hb2.mono hb1.size)
      go_wp2_with fail
      refine (C3.out _ (HT.out.below hb2)).mono ?_
      rintro e w3 ⟨rfl, hb3⟩
      have hb3 := hb2.trans (hb3.mono hb2.size)
      go_wp2_with fail
      refine (C4.out _).mono ?_
      rintro e w4 ⟨rfl, hb4⟩
      have hb4 := hb3.trans (hb4.mono hb3.size)
      go_wp2_with fail
      refine (shown_any _ (HT.out.below hb4)).mono ?_
      rintro e w7 ⟨rfl, hb7⟩
      have hb7 := hb4.trans (hb7.mono hb4.size)
      go_wp2_with fail
      go_ret
      exact ⟨by simp, hb7⟩
end Go.Proofs.YtdncfignegagjaaDoor
