import Derived.Test.YtdncfignegagjaaDoorQ1
namespace Go.Proofs.YtdncfignegagjaaDoor
open Go.RowKit

theorem quoteW_yes {l : List UInt8} (h : textB l = true) : quoteW l = (quoted l, 0) := by simp [quoteW, h]
theorem quoteW_no {l : List UInt8} (h : textB l = false) : quoteW l = ([], 2) := by simp [quoteW, h]
set_option maxHeartbeats 1000000 in
theorem quote_any (s : ByteArray) (w : World) (hT : Tabs w) (hs : s.size ≤ maxLen) :
    Calls Tryd.prog 30 #[.string s] w fun e w' => e = .returned (strV (quoteW s.data.toList)) ∧ Below w.heap.size w w' := by
  cases h : textB s.data.toList
  · have hf := Lib.hid (quoteW_no h)
    have H := Lib.hid h
    clear h
    go_enter Tryd.func30, Tryd.ntmps30
    go_wp2_with fail
    refine (text_any s _ hs).mono ?_
    rintro e w' ⟨rfl, rfl⟩
    rw [H.out]
    go_wp2_with fail
    go_ret2
    exact ⟨ret_strV hf.out, Below.refl _ _⟩
  · have hf := Lib.hid (quoteW_yes h)
    have hl := textB_len h
    rw [len_eq] at hl
    have hdl := dbl_len s.data.toList
    rw [len_eq] at hdl
    have HR := Lib.hid (fun w hT => repl_dbl s w hT (by omega))
    have H := Lib.hid h
    have HT := Lib.hid hT
    have HF := Lib.hid (show quoteW s.data.toList = (34 :: (dbl s.data.toList ++ [34]), 0) from hf.out)
    clear h hf
    generalize dbl s.data.toList = d at *
    go_enter Tryd.func30, Tryd.ntmps30
    go_wp2_with fail
    refine (text_any s _ hs).mono ?_
    rintro e w' ⟨rfl, rfl⟩
    rw [H.out]
    go_wp2_with fail
    refine (HR.out _ HT.out).mono ?_
    rintro e w' ⟨rfl, hb⟩
    go_wp2_with fail
    go_ret2
    exact ⟨ret_strV2 (by rw [HF.out]; simp), hb⟩

set_option maxHeartbeats 1000000 in
theorem clone_any (s : ByteArray) (w : World) (hs : s.size ≤ 281474976710656) :
    Calls Tryd.prog 58 #[.string s] w fun e w' => e = .returned (.string s) ∧ Below w.heap.size w w' := by
  go_enter Tryd.func58, Tryd.ntmps58
  go_wp2_with fail
  refine (Tryd.stringslite_Clone s _ hs).mono ?_
  rintro e w' ⟨rfl, hb⟩
  go_wp2_with fail
  go_ret
  exact ⟨rfl, hb⟩
theorem unquoteW_short {l : List UInt8} (h : l.length < 2) : unquoteW l = ([], 6) := by simp [unquoteW, h]
theorem unquoteW_text {l : List UInt8} (h : ¬ l.length < 2) (h1 : textB (inner l) = false) : unquoteW l = ([], 6) := by simp [unquoteW, h, h1]
theorem unquoteW_other {l : List UInt8} (h : ¬ l.length < 2) (h1 : quoted (inner l) ≠ l) : unquoteW l = ([], 6) := by simp [unquoteW, h, h1]
theorem unquoteW_yes {l : List UInt8} (h : ¬ l.length < 2) (h1 : textB (inner l) = true) (h2 : quoted (inner l) = l) : unquoteW l = (inner l, 0) := by simp [unquoteW, h, h1, h2]

set_option maxHeartbeats 1000000 in
theorem unquote_any (s : ByteArray) (w : World) (hT : Tabs w) (hs : s.size ≤ 1000000) :
    Calls Tryd.prog 32 #[.string s] w fun e w' => e = .returned (strV (unquoteW s.data.toList)) ∧ Below w.heap.size w w' := by
  by_cases h : s.size < 2
  · have hf := Lib.hid (unquoteW_short (l := s.data.toList) (by rw [len_eq]; exact h))
    go_enter Tryd.func32, Tryd.ntmps32
    go_wp2_with fail
    go_ret2
    exact ⟨ret_strV hf.out, Below.refl _ _⟩
  have hlen : ¬ s.data.toList.length < 2 := by rw [len_eq]; exact h
  have hin : undbl (s.extract 1 (s.size - 1)).data.toList = inner s.data.toList := by
    unfold inner; rw [Lib.extract_data, len_eq]; congr 2
  have hinl : (inner s.data.toList).length ≤ s.size := by
    rw [← hin]; have := undbl_len _ (s.extract 1 (s.size - 1)).data.toList (Nat.le_refl _)
    have h2 := ByteArray.size_extract (a := s) (b := 1) (e := s.size - 1)
    rw [len_eq] at this; omega
  have hr := fun w hT => repl_undbl (s.extract 1 (s.size - 1)) w hT (by simp; omega)
  rw [hin] at hr
  have HR := Lib.hid hr
  have hq := fun w hT => quote_any ⟨(inner s.data.toList).toArray⟩ w hT (by show (inner s.data.toList).length ≤ _; unfold maxLen; omega)
  simp only at hq
  have HT := Lib.hid hT
  clear hr hin
  cases ht : textB (inner s.data.toList)
  · rw [quoteW_no ht] at hq
    have HQ := Lib.hid hq
    have hf := Lib.hid (unquoteW_text hlen ht)
    clear hq ht hlen
    generalize inner s.data.toList = i at *
    go_enter Tryd.func32, Tryd.ntmps32
    go_wp2_with fail
    refine (HR.out _ HT.out).mono ?_
    rintro e w1 ⟨rfl, hb⟩
    go_wp2_with fail
    refine (HQ.out _ (HT.out.below hb)).mono ?_
    rintro e w2 ⟨rfl, hb2⟩
    simp only [strV]
    go_wp2_with fail
    go_ret2
    exact ⟨ret_strV hf.out, hb.trans (hb2.mono hb.size)⟩
  rw [quoteW_yes ht] at hq
  by_cases h2 : quoted (inner s.data.toList) = s.data.toList
  · have HQ := Lib.hid hq
    have hf := Lib.hid (unquoteW_yes hlen ht h2)
    have q1 : (quoted (inner s.data.toList) == s.toList) = true := by rw [toL]; simp [h2]
    clear hq ht hlen h2
    generalize quoted (inner s.data.toList) = q at *
    generalize inner s.data.toList = i at *
    go_enter Tryd.func32, Tryd.ntmps32
    go_wp2_with fail
    refine (HR.out _ HT.out).mono ?_
    rintro e w1 ⟨rfl, hb⟩
    go_wp2_with fail
    refine (HQ.out _ (HT.out.below hb)).mono ?_
    rintro e w2 ⟨rfl, hb2⟩
    simp only [strV]
    go_wp2_with fail
    refine (clone_any _ _ (by show i.length ≤ _; omega)).mono ?_
    rintro e w3 ⟨rfl, hb3⟩
    go_wp2_with fail
    go_ret2
    exact ⟨ret_strV hf.out, (hb.trans (hb2.mono hb.size)).trans (hb3.mono (Nat.le_trans hb.size hb2.size))⟩
  · have HQ := Lib.hid hq
    have hf := Lib.hid (unquoteW_other hlen h2)
    have q1 : (quoted (inner s.data.toList) == s.toList) = false := by rw [toL]; simp [h2]
    clear hq ht hlen h2
    generalize quoted (inner s.data.toList) = q at *
    generalize inner s.data.toList = i at *
    go_enter Tryd.func32, Tryd.ntmps32
    go_wp2_with fail
    refine (HR.out _ HT.out).mono ?_
    rintro e w1 ⟨rfl, hb⟩
    go_wp2_with fail
    refine (HQ.out _ (HT.out.below hb)).mono ?_
    rintro e w2 ⟨rfl, hb2⟩
    simp only [strV]
    go_wp2_with fail
    go_ret2
    exact ⟨ret_strV hf.out, hb.trans (hb2.mono hb.size)⟩

def bareB (l : List UInt8) : Bool := decide (l ≠ []) && decide (l.length ≤ 200) && inR 33 126 l && !(decide (0 ≤ Lib.indexByte l 34))
set_option maxHeartbeats 1000000 in
theorem bare_any (s : ByteArray) (w : World) (hs : s.size ≤ maxLen) :
    Calls Tryd.prog 82 #[.string s] w fun e w' => e = .returned (.bool (bareB s.data.toList)) ∧ w = w' := by
  by_cases h0 : s.size = 0
  · have e1 := empty_yes s h0
    have e2 := isEmpty_yes s h0
    have hf := Lib.hid (show bareB s.data.toList = false by unfold bareB; rw [← toL, e1]; rfl)
    go_enter Tryd.func82, Tryd.ntmps82
    go_wp2_with fail
    go_ret
    exact ⟨ret_bool hf.out.symm, rfl⟩
  have hpos : 0 < s.size := by omega
  have e1 := empty_no s hpos
  have e2 := isEmpty_no s hpos
  have hne : s.data.toList ≠ [] := by rw [← toL]; exact e1
  by_cases h1 : 200 < s.size
  · have hf := Lib.hid (show bareB s.data.toList = false by unfold bareB; rw [decide_eq_false (p := _ ≤ 200) (by rw [len_eq]; omega)]; simp)
    clear hne
    go_enter Tryd.func82, Tryd.ntmps82
    go_wp2_with fail
    go_ret
    exact ⟨ret_bool hf.out.symm, rfl⟩
  have hle : s.data.toList.length ≤ 200 := by rw [len_eq]; omega
  cases h2 : inR 33 126 s.data.toList
  · have hf := Lib.hid (show bareB s.data.toList = false by unfold bareB; rw [h2]; simp)
    have H2 := Lib.hid h2
    clear h2 hne
    go_enter Tryd.func82, Tryd.ntmps82
    go_wp2_with fail
    refine (within_any s _ _ _ hs).mono ?_
    rintro e w' ⟨rfl, rfl⟩
    rw [H2.out]
    go_wp2_with fail
    go_ret
    exact ⟨ret_bool hf.out.symm, rfl⟩
  · have hf := Lib.hid (show bareB s.data.toList = !(decide (0 ≤ Lib.indexByte s.data.toList 34)) by unfold bareB; rw [h2, decide_eq_true hne, decide_eq_true hle]; simp)
    have H2 := Lib.hid h2
    have HC := Lib.hid (fun w => Tryd.strings_Contains_one s 34 w)
    clear h2 hne
    generalize decide (0 ≤ Lib.indexByte s.data.toList 34) = b at *
    go_enter Tryd.func82, Tryd.ntmps82
    go_wp2_with fail
    refine (within_any s _ _ _ hs).mono ?_
    rintro e w' ⟨rfl, rfl⟩
    rw [H2.out]
    go_wp2_with fail
    refine (HC.out _).mono ?_
    rintro e w' ⟨rfl, rfl⟩
    go_wp2_with fail
    go_ret
    exact ⟨ret_bool hf.out.symm, rfl⟩
end Go.Proofs.YtdncfignegagjaaDoor
