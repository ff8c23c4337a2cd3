import Derived.Test.YtdncfignegagjaaDoorR8
namespace Go.Proofs.YtdncfignegagjaaDoor
open Go.RowKit

theorem rintW_1 {l : List UInt8} {a b : Int} (h : b < a) : rintW l a b = (0, 2) := by simp [rintW, h]
theorem rintW_2 {l : List UInt8} {a b : Int} (h : ¬ b < a) (h1 : wholeB l = false) : rintW l a b = (0, 6) := by simp [rintW, h, h1]
theorem rintW_3 {l : List UInt8} {a b : Int} (h : ¬ b < a) (h1 : wholeB l = true) (h2 : 20 < l.length) : rintW l a b = (0, 7) := by simp [rintW, h, h1, h2]
theorem rintW_4 {l : List UInt8} {a b : Int} (h : ¬ b < a) (h1 : wholeB l = true) (h2 : ¬ 20 < l.length) (h3 : Lib.itoa (foldW l) ≠ l ∨ foldW l < a ∨ b < foldW l) : rintW l a b = (0, 7) := by
  unfold rintW; rw [if_neg h, if_neg (by rw [h1]; simp), if_neg h2, if_pos h3]
theorem rintW_5 {l : List UInt8} {a b : Int} (h : ¬ b < a) (h1 : wholeB l = true) (h2 : ¬ 20 < l.length) (h3 : Lib.itoa (foldW l) = l) (h4 : ¬ foldW l < a) (h5 : ¬ b < foldW l) : rintW l a b = (foldW l, 0) := by
  unfold rintW; rw [if_neg h, if_neg (by rw [h1]; simp), if_neg h2, if_neg (by simp [h3]; omega)]
theorem foldl_take_succ (f : Int → UInt8 → Int) (s : ByteArray) (k : Nat) (h : k < s.size) : (s.data.toList.take (k + 1)).foldl f 0 = f ((s.data.toList.take k).foldl f 0) s[k] := by
  have hk : k < s.data.toList.length := by simpa using h
  rw [List.take_succ_eq_append_getElem hk, List.foldl_append]
  have e : s.data.toList[k] = s[k] := by simp [ByteArray.getElem_eq_getElem_data]
  rw [e]; rfl
theorem step_range (neg : Bool) (n : Int) (c : UInt8) (h : -9223372036854775808 ≤ n ∧ n ≤ 9223372036854775807) : -9223372036854775808 ≤ stepW neg n c ∧ stepW neg n c ≤ 9223372036854775807 := by
  unfold stepW; split
  · exact wrap_range _
  · exact h
theorem fold_range (neg : Bool) (l : List UInt8) : ∀ n : Int, (-9223372036854775808 ≤ n ∧ n ≤ 9223372036854775807) → -9223372036854775808 ≤ l.foldl (stepW neg) n ∧ l.foldl (stepW neg) n ≤ 9223372036854775807 := by
  induction l with
  | nil => intro n h; exact h
  | cons c r ih => intro n h; exact ih _ (step_range neg n c h)


set_option maxHeartbeats 1000000 in
theorem rint_plain (s : ByteArray) (least most : Int) (w : World) (hs : s.size ≤ maxLen) (hpos : 0 < s.size) (hneg : ((s[0].toNat : Int) == 45) = false)
    (h1 : ¬ most < least) (h2 : wholeB s.data.toList = true) (h3 : ¬ 20 < s.size) :
    Calls Tryd.prog 19 #[.string s, .int .i64 least, .int .i64 most] w fun e w' => e = .returned (intV (rintW s.data.toList least most)) ∧ Below w.heap.size w w' := by
  have hsm := hs
  unfold maxLen at hs
  have hneg2 : ((s[0].toNat : Int) != 45) = true := by simp only [bne, hneg]; rfl
  have hn : Hid (foldW s.data.toList = s.data.toList.foldl (stepW false) 0) := by
    refine Lib.hid ?_
    unfold foldW
    rw [show negOf s.data.toList = false from ?_]
    unfold negOf
    rw [head_eq s hpos, ← hneg]
    apply Bool.eq_iff_iff.2
    simp only [decide_eq_true_eq, beq_iff_eq]
    exact ⟨fun e => by rw [e]; rfl, fun e => by apply UInt8.toNat_inj.1; simpa using (by omega : s[0].toNat = 45)⟩
  have H2 := Lib.hid h2
  have f4 := Lib.hid (fun h => rintW_4 (l := s.data.toList) h1 h2 (by rw [len_eq]; exact h3) h)
  have f5 := Lib.hid (fun h h' h'' => rintW_5 (l := s.data.toList) h1 h2 (by rw [len_eq]; exact h3) h h' h'')
  clear h2
  go_enter Tryd.func19, Tryd.ntmps19
  go_wp2_with (go_at_call 49; refine (rwhole_any s _ hsm).mono ?_; rintro e w' ⟨rfl, rfl⟩; rw [H2.out])
  go_loop [8, 9] (fun n i => ∃ k : Nat, k ≤ s.size ∧ i = .int .i64 k ∧ n = .int .i64 ((s.data.toList.take k).foldl (stepW false) 0)) (fun n i => s.size - (intOf i).toNat)
  case atStart => exact ⟨0, Nat.zero_le _, rfl, rfl⟩
  case round =>
    obtain ⟨k, hk, rfl, hr⟩ := hrel
    have hrng := fold_range false (s.data.toList.take k) 0 (by omega)
    by_cases hlt : k < s.size
    · have Hst := Lib.hid (foldl_take_succ (stepW false) s k hlt)
      have Hr := Lib.hid hr
      clear hr
      generalize hm : (s.data.toList.take k).foldl (stepW false) 0 = m at *
      have Hm := Lib.hid hm
      clear hm
      obtain rfl := Hr.out
      cases hd : digitB (s[k].toNat : Int)
      · have HD := Lib.hid hd; clear hd
        go_wp2_with (go_at_call 45; refine (rdigit_any _ _).mono ?_; rintro e w' ⟨rfl, rfl⟩; rw [HD.out])
        go_round
        case rel => exact ⟨k + 1, by omega, by go_num, by rw [Hst.out]; unfold stepW; rw [HD.out]; rfl⟩
        case measure => simp [intOf]; omega
      · have HD := Lib.hid hd; clear hd
        have hd1 := (digit_yes HD.out).1
        have hd2 := (digit_yes HD.out).2
        go_wp2_with (go_at_call 45; refine (rdigit_any _ _).mono ?_; rintro e w' ⟨rfl, rfl⟩; rw [HD.out])
        go_round
        case rel => exact ⟨k + 1, by omega, by go_num, by rw [Hst.out]; unfold stepW; rw [HD.out]; rfl⟩
        case measure => simp [intOf]; omega
    · have e0 : (s.data.toList.take k).foldl (stepW false) 0 = foldW s.data.toList := by
        rw [List.take_of_length_le (by simp; omega), hn.out]
      rw [e0] at hr hrng
      subst hr
      clear e0 hn
      generalize foldW s.data.toList = m at *
      obtain ⟨D, hD⟩ : ∃ D : ByteArray, D = ⟨(Lib.itoa m).toArray⟩ := ⟨_, rfl⟩
      have hDl : D.data.toList = Lib.itoa m := by rw [hD]
      have hc : Hid (∀ w : World, Calls Tryd.prog 21 #[.int .i64 m] w fun e w' => e = .returned (.string D) ∧ Below w.heap.size w w') := by
        refine Lib.hid fun w => ?_
        rw [hD]; exact rdigits_any m hrng.1 hrng.2 w
      clear hD
      by_cases he : D.data.toList = s.data.toList
      · have b1 : (D.toList == s.toList) = true := by rw [toList_beq, toL]; simp [he]
        have b2 : (D.toList != s.toList) = false := by simp only [bne, b1]; rfl
        have He := Lib.hid (hDl.symm.trans he)
        clear he hDl
        by_cases h5 : m < least
        · have hf := Lib.hid (f4.out (.inr (.inl h5)))
          go_wp2_with (go_at_call 21; refine (hc.out _).mono ?_; rintro e w' ⟨rfl, hb⟩)
          go_ret2
          exact ⟨ret_intV hf.out, hb⟩
        · by_cases h6 : most < m
          · have hf := Lib.hid (f4.out (.inr (.inr h6)))
            go_wp2_with (go_at_call 21; refine (hc.out _).mono ?_; rintro e w' ⟨rfl, hb⟩)
            go_ret2
            exact ⟨ret_intV hf.out, hb⟩
          · have hf := Lib.hid (f5.out He.out (by omega) (by omega))
            go_wp2_with (go_at_call 21; refine (hc.out _).mono ?_; rintro e w' ⟨rfl, hb⟩)
            go_ret2
            exact ⟨ret_intV hf.out, hb⟩
      · have b1 : (D.toList == s.toList) = false := by rw [toList_beq, toL]; simp [he]
        have b2 : (D.toList != s.toList) = true := by simp only [bne, b1]; rfl
        have hf := Lib.hid (f4.out (.inl (by rw [← hDl]; exact he)))
        clear he hDl
        go_wp2_with (go_at_call 21; refine (hc.out _).mono ?_; rintro e w' ⟨rfl, hb⟩)
        go_ret2
        exact ⟨ret_intV hf.out, hb⟩

set_option maxHeartbeats 1000000 in
theorem rint_minus (s : ByteArray) (least most : Int) (w : World) (hs : s.size ≤ maxLen) (hpos : 0 < s.size) (hneg : ((s[0].toNat : Int) == 45) = true)
    (h1 : ¬ most < least) (h2 : wholeB s.data.toList = true) (h3 : ¬ 20 < s.size) :
    Calls Tryd.prog 19 #[.string s, .int .i64 least, .int .i64 most] w fun e w' => e = .returned (intV (rintW s.data.toList least most)) ∧ Below w.heap.size w w' := by
  have hsm := hs
  unfold maxLen at hs
  have hneg2 : ((s[0].toNat : Int) != 45) = false := by simp only [bne, hneg]; rfl
  have hn : Hid (foldW s.data.toList = s.data.toList.foldl (stepW true) 0) := by
    refine Lib.hid ?_
    unfold foldW
    rw [show negOf s.data.toList = true from ?_]
    unfold negOf
    rw [head_eq s hpos, ← hneg]
    apply Bool.eq_iff_iff.2
    simp only [decide_eq_true_eq, beq_iff_eq]
    exact ⟨fun e => by rw [e]; rfl, fun e => by apply UInt8.toNat_inj.1; simpa using (by omega : s[0].toNat = 45)⟩
  have H2 := Lib.hid h2
  have f4 := Lib.hid (fun h => rintW_4 (l := s.data.toList) h1 h2 (by rw [len_eq]; exact h3) h)
  have f5 := Lib.hid (fun h h' h'' => rintW_5 (l := s.data.toList) h1 h2 (by rw [len_eq]; exact h3) h h' h'')
  clear h2
  go_enter Tryd.func19, Tryd.ntmps19
  go_wp2_with (go_at_call 49; refine (rwhole_any s _ hsm).mono ?_; rintro e w' ⟨rfl, rfl⟩; rw [H2.out])
  go_loop [8, 9] (fun n i => ∃ k : Nat, k ≤ s.size ∧ i = .int .i64 k ∧ n = .int .i64 ((s.data.toList.take k).foldl (stepW true) 0)) (fun n i => s.size - (intOf i).toNat)
  case atStart => exact ⟨0, Nat.zero_le _, rfl, rfl⟩
  case round =>
    obtain ⟨k, hk, rfl, hr⟩ := hrel
    have hrng := fold_range true (s.data.toList.take k) 0 (by omega)
    by_cases hlt : k < s.size
    · have Hst := Lib.hid (foldl_take_succ (stepW true) s k hlt)
      have Hr := Lib.hid hr
      clear hr
      generalize hm : (s.data.toList.take k).foldl (stepW true) 0 = m at *
      have Hm := Lib.hid hm
      clear hm
      obtain rfl := Hr.out
      cases hd : digitB (s[k].toNat : Int)
      · have HD := Lib.hid hd; clear hd
        go_wp2_with (go_at_call 45; refine (rdigit_any _ _).mono ?_; rintro e w' ⟨rfl, rfl⟩; rw [HD.out])
        go_round
        case rel => exact ⟨k + 1, by omega, by go_num, by rw [Hst.out]; unfold stepW; rw [HD.out]; rfl⟩
        case measure => simp [intOf]; omega
      · have HD := Lib.hid hd; clear hd
        have hd1 := (digit_yes HD.out).1
        have hd2 := (digit_yes HD.out).2
        go_wp2_with (go_at_call 45; refine (rdigit_any _ _).mono ?_; rintro e w' ⟨rfl, rfl⟩; rw [HD.out])
        go_round
        case rel => exact ⟨k + 1, by omega, by go_num, by rw [Hst.out]; unfold stepW; rw [HD.out]; rfl⟩
        case measure => simp [intOf]; omega
    · have e0 : (s.data.toList.take k).foldl (stepW true) 0 = foldW s.data.toList := by
        rw [List.take_of_length_le (by simp; omega), hn.out]
      rw [e0] at hr hrng
      subst hr
      clear e0 hn
      generalize foldW s.data.toList = m at *
      obtain ⟨D, hD⟩ : ∃ D : ByteArray, D = ⟨(Lib.itoa m).toArray⟩ := ⟨_, rfl⟩
      have hDl : D.data.toList = Lib.itoa m := by rw [hD]
      have hc : Hid (∀ w : World, Calls Tryd.prog 21 #[.int .i64 m] w fun e w' => e = .returned (.string D) ∧ Below w.heap.size w w') := by
        refine Lib.hid fun w => ?_
        rw [hD]; exact rdigits_any m hrng.1 hrng.2 w
      clear hD
      by_cases he : D.data.toList = s.data.toList
      · have b1 : (D.toList == s.toList) = true := by rw [toList_beq, toL]; simp [he]
        have b2 : (D.toList != s.toList) = false := by simp only [bne, b1]; rfl
        have He := Lib.hid (hDl.symm.trans he)
        clear he hDl
        by_cases h5 : m < least
        · have hf := Lib.hid (f4.out (.inr (.inl h5)))
          go_wp2_with (go_at_call 21; refine (hc.out _).mono ?_; rintro e w' ⟨rfl, hb⟩)
          go_ret2
          exact ⟨ret_intV hf.out, hb⟩
        · by_cases h6 : most < m
          · have hf := Lib.hid (f4.out (.inr (.inr h6)))
            go_wp2_with (go_at_call 21; refine (hc.out _).mono ?_; rintro e w' ⟨rfl, hb⟩)
            go_ret2
            exact ⟨ret_intV hf.out, hb⟩
          · have hf := Lib.hid (f5.out He.out (by omega) (by omega))
            go_wp2_with (go_at_call 21; refine (hc.out _).mono ?_; rintro e w' ⟨rfl, hb⟩)
            go_ret2
            exact ⟨ret_intV hf.out, hb⟩
      · have b1 : (D.toList == s.toList) = false := by rw [toList_beq, toL]; simp [he]
        have b2 : (D.toList != s.toList) = true := by simp only [bne, b1]; rfl
        have hf := Lib.hid (f4.out (.inl (by rw [← hDl]; exact he)))
        clear he hDl
        go_wp2_with (go_at_call 21; refine (hc.out _).mono ?_; rintro e w' ⟨rfl, hb⟩)
        go_ret2
        exact ⟨ret_intV hf.out, hb⟩

set_option maxHeartbeats 400000 in
theorem rint_any (s : ByteArray) (least most : Int) (w : World) (hs : s.size ≤ maxLen) :
    Calls Tryd.prog 19 #[.string s, .int .i64 least, .int .i64 most] w fun e w' => e = .returned (intV (intW s.data.toList least most)) ∧ Below w.heap.size w w' := by
  rw [← rintW_eq]
  by_cases h1 : most < least
  · have hf := Lib.hid (rintW_1 (l := s.data.toList) h1)
    go_enter Tryd.func19, Tryd.ntmps19
    go_wp2_with fail
    go_ret2
    exact ⟨ret_intV hf.out, Below.refl _ _⟩
  cases h2 : wholeB s.data.toList
  · have hf := Lib.hid (rintW_2 h1 h2)
    have H2 := Lib.hid h2; clear h2
    go_enter Tryd.func19, Tryd.ntmps19
    go_wp2_with (go_at_call 49; refine (rwhole_any s _ hs).mono ?_; rintro e w' ⟨rfl, rfl⟩; rw [H2.out])
    go_ret2
    exact ⟨ret_intV hf.out, Below.refl _ _⟩
  by_cases h3 : 20 < s.size
  · have hf := Lib.hid (rintW_3 h1 h2 (by rw [len_eq]; exact h3))
    have H2 := Lib.hid h2; clear h2
    have hsm := hs
    unfold maxLen at hs
    go_enter Tryd.func19, Tryd.ntmps19
    go_wp2_with (go_at_call 49; refine (rwhole_any s _ hsm).mono ?_; rintro e w' ⟨rfl, rfl⟩; rw [H2.out])
    go_ret2
    exact ⟨ret_intV hf.out, Below.refl _ _⟩
  have hpos : 0 < s.size := by
    by_cases h : s.size = 0
    · have := empty_yes s h
      rw [toL] at this
      rw [this] at h2
      exact absurd h2 (by decide)
    · omega
  cases hneg : ((s[0].toNat : Int) == 45)
  · exact rint_plain s least most w hs hpos hneg h1 h2 h3
  · exact rint_minus s least most w hs hpos hneg h1 h2 h3
end Go.Proofs.YtdncfignegagjaaDoor
