import Derived.Test.YtdncfignegagjaaDoorRQ2
namespace Go.Proofs.YtdncfignegagjaaDoor
open Go.RowKit

theorem unq_cases (l : List UInt8) : (∃ t, textB t = true ∧ quoted t = l ∧ unquoteW l = (t, 0)) ∨ unquoteW l = ([], 6) := by
  by_cases h : l.length < 2
  · exact .inr (unquoteW_short h)
  by_cases h1 : quoted (inner l) = l
  · cases ht : textB (inner l)
    · exact .inr (unquoteW_text h ht)
    · exact .inl ⟨_, ht, h1, unquoteW_yes h ht h1⟩
  · exact .inr (unquoteW_other h h1)

set_option maxRecDepth 100000 in
set_option maxHeartbeats 2000000 in
theorem lawQuotes_any (s : ByteArray) (w : World) (hT : Tabs w) (hs : s.size ≤ maxLen) :
    Calls Tryd.prog 7 #[.string s] w fun e w' => e = .returned (.bool true) ∧ Below w.heap.size w w' := by
  have hs0 := hs
  unfold maxLen at hs
  have HT := Lib.hid hT
  clear hT
  by_cases h : 20000 < s.size
  · go_enter Tryd.func7, Tryd.ntmps7
    go_wp2_with fail
    refine (shown_any _ HT.out).mono ?_
    rintro e w1 ⟨rfl, hb⟩
    go_wp2_with fail
    go_ret
    exact ⟨rfl, hb⟩
  · have c1 := fun w hT => quote_any s w hT hs0
    have c2 := fun w => rquote_any s w hs0
    have c3 := fun w hT => unquote_any s w hT (by omega)
    have c4 := fun w => runquote_any s w (by omega)
    cases ht : textB s.data.toList
    · rw [quoteW_no ht] at c1 c2
      have C1 := Lib.hid c1
      have C2 := Lib.hid c2
      rcases unq_cases s.data.toList with ⟨t, h1, h2, h3⟩ | h3
      · obtain ⟨D, hD⟩ : ∃ D : ByteArray, D = ⟨t.toArray⟩ := ⟨_, rfl⟩
        obtain rfl : t = D.data.toList := by rw [hD]
        have hDl := textB_len h1
        rw [len_eq] at hDl
        rw [h3] at c3 c4
        have C3 := Lib.hid c3
        have C4 := Lib.hid c4
        have c6 := fun w hT => quote_any D w hT (by unfold maxLen; omega)
        rw [quoteW_yes h1, h2] at c6
        have C6 := Lib.hid c6
        simp only [strV] at C1 C2 C3 C4 C6
        clear c1 c2 c3 c4 c6 h1 h2 h3 ht hD
        go_enter Tryd.func7, Tryd.ntmps7
        go_wp2_with fail
        refine (C1.out _ HT.out).mono ?_
        rintro e w1 ⟨rfl, hb1⟩
        go_wp2_with fail
        refine (C2.out _).mono ?_
        rintro e w2 ⟨rfl, hb2⟩
        have hb2 := hb1.trans (hb2.mono hb1.size)
        go_wp2_with fail
        refine (C3.out _ (HT.out.below hb2)).mono ?_
        rintro e w3 ⟨rfl, hb3⟩
        have hb3 := hb2.trans (hb3.mono hb2.size)
        go_wp2_with fail
        refine (C4.out _).mono ?_
        rintro e w4 ⟨rfl, hb4⟩
        have hb4 := hb3.trans (hb4.mono hb3.size)
        go_wp2_with fail
        refine (C6.out _ (HT.out.below hb4)).mono ?_
        rintro e w5 ⟨rfl, hb5⟩
        have hb5 := hb4.trans (hb5.mono hb4.size)
        go_wp2_with fail
        refine (shown_any _ (HT.out.below hb5)).mono ?_
        rintro e w7 ⟨rfl, hb7⟩
        have hb7 := hb5.trans (hb7.mono hb5.size)
        go_wp2_with fail
        go_ret
        exact ⟨by simp, hb7⟩
      · rw [h3] at c3 c4
        have C3 := Lib.hid c3
        have C4 := Lib.hid c4
        simp only [strV] at C1 C2 C3 C4
        clear c1 c2 c3 c4 h3 ht
        go_enter Tryd.func7, Tryd.ntmps7
        go_wp2_with fail
        refine (C1.out _ HT.out).mono ?_
        rintro e w1 ⟨rfl, hb1⟩
        go_wp2_with fail
        refine (C2.out _).mono ?_
        rintro e w2 ⟨rfl, hb2⟩
        have hb2 := hb1.trans (hb2.mono hb1.size)
        go_wp2_with fail
        refine (C3.out _ (HT.out.below hb2)).mono ?_
        rintro e w3 ⟨rfl, hb3⟩
        have hb3 := hb2.trans (hb3.mono hb2.size)
        go_wp2_with fail
        refine (C4.out _).mono ?_
        rintro e w4 ⟨rfl, hb4⟩
        have hb4 := hb3.trans (hb4.mono hb3.size)
        go_wp2_with fail
        refine (shown_any _ (HT.out.below hb4)).mono ?_
        rintro e w7 ⟨rfl, hb7⟩
        have hb7 := hb4.trans (hb7.mono hb4.size)
        go_wp2_with fail
        go_ret
        exact ⟨by simp, hb7⟩
    · obtain ⟨A, hA⟩ : ∃ A : ByteArray, A = ⟨(quoted s.data.toList).toArray⟩ := ⟨_, rfl⟩
      have hAl : A.data.toList = quoted s.data.toList := by rw [hA]
      have hAs : A.size ≤ 1000000 := by
        have h5 := textB_len ht
        have h6 := dbl_len s.data.toList
        have h7 : A.data.toList.length = (quoted s.data.toList).length := by rw [hAl]
        rw [len_eq] at h7
        unfold quoted at h7
        simp only [List.length_cons, List.length_append, List.length_nil] at h7
        omega
      rw [quoteW_yes ht, ← hAl] at c1 c2
      have C1 := Lib.hid c1
      have C2 := Lib.hid c2
      have c5 := fun w hT => unquote_any A w hT hAs
      rw [unq_ok hAl, ht] at c5
      have C5 := Lib.hid c5
      rcases unq_cases s.data.toList with ⟨t, h1, h2, h3⟩ | h3
      · obtain ⟨D, hD⟩ : ∃ D : ByteArray, D = ⟨t.toArray⟩ := ⟨_, rfl⟩
        obtain rfl : t = D.data.toList := by rw [hD]
        have hDl := textB_len h1
        rw [len_eq] at hDl
        rw [h3] at c3 c4
        have C3 := Lib.hid c3
        have C4 := Lib.hid c4
        have c6 := fun w hT => quote_any D w hT (by unfold maxLen; omega)
        rw [quoteW_yes h1, h2] at c6
        have C6 := Lib.hid c6
        simp only [strV, if_true] at C1 C2 C3 C4 C5 C6
        clear c1 c2 c3 c4 c5 c6 h1 h2 h3 ht hD hA hAl
        go_enter Tryd.func7, Tryd.ntmps7
        go_wp2_with fail
        refine (C1.out _ HT.out).mono ?_
        rintro e w1 ⟨rfl, hb1⟩
        go_wp2_with fail
        refine (C2.out _).mono ?_
        rintro e w2 ⟨rfl, hb2⟩
        have hb2 := hb1.trans (hb2.mono hb1.size)
        go_wp2_with fail
        refine (C3.out _ (HT.out.below hb2)).mono ?_
        rintro e w3 ⟨rfl, hb3⟩
        have hb3 := hb2.trans (hb3.mono hb2.size)
        go_wp2_with fail
        refine (C4.out _).mono ?_
        rintro e w4 ⟨rfl, hb4⟩
        have hb4 := hb3.trans (hb4.mono hb3.size)
        go_wp2_with fail
        refine (C5.out _ (HT.out.below hb4)).mono ?_
        rintro e w5 ⟨rfl, hb5⟩
        have hb5 := hb4.trans (hb5.mono hb4.size)
        go_wp2_with fail
        refine (C6.out _ (HT.out.below hb5)).mono ?_
        rintro e w6 ⟨rfl, hb6⟩
        have hb6 := hb5.trans (hb6.mono hb5.size)
        go_wp2_with fail
        refine (shown_any _ (HT.out.below hb6)).mono ?_
        rintro e w7 ⟨rfl, hb7⟩
        have hb7 := hb6.trans (hb7.mono hb6.size)
        go_wp2_with fail
        go_ret
        exact ⟨by simp, hb7⟩
      · rw [h3] at c3 c4
        have C3 := Lib.hid c3
        have C4 := Lib.hid c4
        simp only [strV, if_true] at C1 C2 C3 C4 C5
        clear c1 c2 c3 c4 c5 h3 ht hA hAl
        go_enter Tryd.func7, Tryd.ntmps7
        go_wp2_with fail
        refine (C1.out _ HT.out).mono ?_
        rintro e w1 ⟨rfl, hb1⟩
        go_wp2_with fail
        refine (C2.out _).mono ?_
        rintro e w2 ⟨rfl, hb2⟩
        have hb2 := hb1.trans (hb2.mono hb1.size)
        go_wp2_with fail
        refine (C3.out _ (HT.out.below hb2)).mono ?_
        rintro e w3 ⟨rfl, hb3⟩
        have hb3 := hb2.trans (hb3.mono hb2.size)
        go_wp2_with fail
        refine (C4.out _).mono ?_
        rintro e w4 ⟨rfl, hb4⟩
        have hb4 := hb3.trans (hb4.mono hb3.size)
        go_wp2_with fail
        refine (C5.out _ (HT.out.below hb4)).mono ?_
        rintro e w5 ⟨rfl, hb5⟩
        have hb5 := hb4.trans (hb5.mono hb4.size)
        go_wp2_with fail
        refine (shown_any _ (HT.out.below hb5)).mono ?_
        rintro e w7 ⟨rfl, hb7⟩
        have hb7 := hb5.trans (hb7.mono hb5.size)
        go_wp2_with fail
        go_ret
        exact ⟨by simp, hb7⟩
end Go.Proofs.YtdncfignegagjaaDoor
