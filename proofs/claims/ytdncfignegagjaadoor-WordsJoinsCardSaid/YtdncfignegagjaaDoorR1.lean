import Derived.Test.YtdncfignegagjaaDoorW15
namespace Go.Proofs.YtdncfignegagjaaDoor
open Go.RowKit

set_option maxHeartbeats 400000 in
theorem rletter_any (c : Int) (w : World) :
    Calls Tryd.prog 44 #[.int .u8 c] w fun e w' => e = .returned (.bool (letterB c)) ∧ w = w' := by
  have hf := Lib.hid (show letterB c = ((decide (97 ≤ c) && decide (c ≤ 122)) || (decide (65 ≤ c) && decide (c ≤ 90))) from rfl)
  by_cases h1 : 97 ≤ c <;> by_cases h2 : c ≤ 122 <;> by_cases h3 : 65 ≤ c <;> by_cases h4 : c ≤ 90 <;> first | omega |
   (go_enter Tryd.func44, Tryd.ntmps44
    go_wp2
    go_ret
    exact ⟨ret_bool (by rw [hf.out]; simp [h1, h2, h3, h4]), rfl⟩)
set_option maxHeartbeats 400000 in
theorem rdigit_any (c : Int) (w : World) :
    Calls Tryd.prog 45 #[.int .u8 c] w fun e w' => e = .returned (.bool (digitB c)) ∧ w = w' := by
  have hf := Lib.hid (show digitB c = ((decide (48 ≤ c) && decide (c ≤ 57))) from rfl)
  by_cases h1 : 48 ≤ c <;> by_cases h2 : c ≤ 57 <;> first | omega |
   (go_enter Tryd.func45, Tryd.ntmps45
    go_wp2
    go_ret
    exact ⟨ret_bool (by rw [hf.out]; simp [h1, h2]), rfl⟩)

theorem textB_bad {l : List UInt8} (h : inR 32 126 l = false) : textB l = false := by simp [textB, h]
theorem textB_good {l : List UInt8} (h : inR 32 126 l = true) : textB l = decide (l.length ≤ 200) := by simp [textB, h]
set_option maxHeartbeats 400000 in
theorem rtext_any (s : ByteArray) (w : World) (hs : s.size ≤ maxLen) :
    Calls Tryd.prog 17 #[.string s] w fun e w' => e = .returned (.bool (textB s.data.toList)) ∧ w = w' := by
  unfold maxLen at hs
  go_enter Tryd.func17, Tryd.ntmps17
  go_wp2
  go_loop [3] (fun i => ∃ k : Nat, k ≤ s.size ∧ i = .int .i64 k ∧ inR 32 126 (s.data.toList.take k) = true) (fun i => s.size - (intOf i).toNat)
  case atStart => exact ⟨0, Nat.zero_le _, rfl, rfl⟩
  case round =>
    obtain ⟨k, hk, rfl, hr⟩ := hrel
    have Hr := Lib.hid hr
    clear hr
    by_cases hlt : k < s.size
    · by_cases h1 : (s[k].toNat : Int) < 32
      · have hf := Lib.hid (textB_bad (inR_false (lo := 32) (hi := 126) s k hlt (by omega)))
        go_wp2
        go_ret
        exact ⟨ret_bool hf.out.symm, rfl⟩
      · by_cases h2 : 126 < (s[k].toNat : Int)
        · have hf := Lib.hid (textB_bad (inR_false (lo := 32) (hi := 126) s k hlt (by omega)))
          go_wp2
          go_ret
          exact ⟨ret_bool hf.out.symm, rfl⟩
        · go_wp2
          go_round
          case rel => exact ⟨k + 1, by omega, by go_num, inR_take_succ s k hlt Hr.out (by omega) (by omega)⟩
          case measure => simp [intOf]; omega
    · go_wp2
      go_ret
      refine ⟨ret_bool ?_, rfl⟩
      have := Hr.out
      rw [List.take_of_length_le (by simp; omega)] at this
      rw [textB_good this]
      apply Bool.eq_iff_iff.2
      simp; omega
set_option maxHeartbeats 800000 in
theorem rname_any (s : ByteArray) (w : World) (hs : s.size ≤ maxLen) :
    Calls Tryd.prog 15 #[.string s] w fun e w' => e = .returned (.bool (nameB s.data.toList)) ∧ w = w' := by
  unfold maxLen at hs
  by_cases h0 : s.size < 1
  · have hf := Lib.hid (show nameB s.data.toList = false by unfold nameB; rw [decide_eq_false (by rw [len_eq]; omega)]; simp)
    go_enter Tryd.func15, Tryd.ntmps15
    go_wp2_with fail
    go_ret
    exact ⟨ret_bool hf.out.symm, rfl⟩
  have hpos : 0 < s.size := by omega
  by_cases h16 : 16 < s.size
  · have hf := Lib.hid (show nameB s.data.toList = false by simp [nameB]; omega)
    go_enter Tryd.func15, Tryd.ntmps15
    go_wp2_with fail
    go_ret
    exact ⟨ret_bool hf.out.symm, rfl⟩
  cases hl : letterB (s[0].toNat : Int)
  · have hf := Lib.hid (nameB_l (by rw [head_eq s hpos]; exact hl))
    have HL := Lib.hid hl
    clear hl
    go_enter Tryd.func15, Tryd.ntmps15
    go_wp2_with (go_at_call 44; refine (rletter_any _ _).mono ?_; rintro e w' ⟨rfl, rfl⟩; rw [HL.out])
    go_ret
    exact ⟨ret_bool hf.out.symm, rfl⟩
  have hf := Lib.hid (nameB_g (by rw [head_eq s hpos]; exact hl) (by rw [len_eq]; omega) (by rw [len_eq]; omega))
  have HL := Lib.hid hl
  clear hl
  go_enter Tryd.func15, Tryd.ntmps15
  go_wp2_with (go_at_call 44; refine (rletter_any _ _).mono ?_; rintro e w' ⟨rfl, rfl⟩; rw [HL.out])
  go_loop [3] (fun i => ∃ k : Nat, k ≤ s.size ∧ i = .int .i64 k ∧ (s.data.toList.take k).all nameC = true) (fun i => s.size - (intOf i).toNat)
  case atStart => exact ⟨0, Nat.zero_le _, rfl, rfl⟩
  case round =>
    obtain ⟨k, hk, rfl, hr⟩ := hrel
    have Hr := Lib.hid hr
    clear hr
    by_cases hlt : k < s.size
    · cases h1 : letterB (s[k].toNat : Int)
      · cases h2 : digitB (s[k].toNat : Int)
        · have H1 := Lib.hid h1; have H2 := Lib.hid h2; clear h1 h2
          by_cases h3 : (s[k].toNat : Int) = 95
          · have h4 := Lib.hid h3
            have h5 : ((s[k].toNat : Int) == 95) = true := by simp [h3]
            have h6 : ((s[k].toNat : Int) != 95) = false := by simp [h3]
            clear h3
            go_wp2_with (first
              | (go_at_call 44; refine (rletter_any _ _).mono ?_; rintro e w' ⟨rfl, rfl⟩; rw [H1.out])
              | (go_at_call 45; refine (rdigit_any _ _).mono ?_; rintro e w' ⟨rfl, rfl⟩; rw [H2.out]))
            go_round
            case rel => exact ⟨k + 1, by omega, by go_num, all_take_succ _ s k hlt Hr.out (nameC_yes (.inr (.inr h4.out)))⟩
            case measure => simp [intOf]; omega
          · have h4 := Lib.hid h3
            have h5 : ((s[k].toNat : Int) == 95) = false := by simp [h3]
            have h6 : ((s[k].toNat : Int) != 95) = true := by simp [h3]
            clear h3
            go_wp2_with (first
              | (go_at_call 44; refine (rletter_any _ _).mono ?_; rintro e w' ⟨rfl, rfl⟩; rw [H1.out])
              | (go_at_call 45; refine (rdigit_any _ _).mono ?_; rintro e w' ⟨rfl, rfl⟩; rw [H2.out]))
            go_ret
            exact ⟨ret_bool (by rw [hf.out]; exact (all_false _ s k hlt (nameC_no H1.out H2.out h4.out)).symm), rfl⟩
        · have H1 := Lib.hid h1; have H2 := Lib.hid h2; clear h1 h2
          go_wp2_with (first
              | (go_at_call 44; refine (rletter_any _ _).mono ?_; rintro e w' ⟨rfl, rfl⟩; rw [H1.out])
              | (go_at_call 45; refine (rdigit_any _ _).mono ?_; rintro e w' ⟨rfl, rfl⟩; rw [H2.out]))
          go_round
          case rel => exact ⟨k + 1, by omega, by go_num, all_take_succ _ s k hlt Hr.out (nameC_yes (.inr (.inl H2.out)))⟩
          case measure => simp [intOf]; omega
      · have H1 := Lib.hid h1; clear h1
        go_wp2_with (first
              | (go_at_call 44; refine (rletter_any _ _).mono ?_; rintro e w' ⟨rfl, rfl⟩; rw [H1.out]))
        go_round
        case rel => exact ⟨k + 1, by omega, by go_num, all_take_succ _ s k hlt Hr.out (nameC_yes (.inl H1.out))⟩
        case measure => simp [intOf]; omega
    · go_wp2_with fail
      go_ret
      refine ⟨ret_bool ?_, rfl⟩
      have := Hr.out
      rw [List.take_of_length_le (by simp; omega)] at this
      rw [hf.out, this]

set_option maxHeartbeats 400000 in
/-- The law WordsNames. -/
theorem lawNames_any (s : ByteArray) (w : World) (hT : Tabs w) (hs : s.size ≤ maxLen) :
    Calls Tryd.prog 3 #[.string s] w fun e w' => e = .returned (.bool true) ∧ Below w.heap.size w w' := by
  have hs0 := hs
  unfold maxLen at hs
  have HT := Lib.hid hT
  clear hT
  by_cases h : 20000 < s.size
  · go_enter Tryd.func3, Tryd.ntmps3
    go_wp2_with fail
    refine (shown_any _ HT.out).mono ?_
    rintro e w1 ⟨rfl, hb⟩
    go_wp2_with fail
    go_ret
    exact ⟨rfl, hb⟩
  · generalize hn : nameB s.data.toList = b1
    generalize ht : textB s.data.toList = b2
    have c1 := Lib.hid (fun w => by have := name_any s w hs0; rwa [hn] at this)
    have c2 := Lib.hid (fun w => by have := rname_any s w hs0; rwa [hn] at this)
    have c3 := Lib.hid (fun w => by have := text_any s w hs0; rwa [ht] at this)
    have c4 := Lib.hid (fun w => by have := rtext_any s w hs0; rwa [ht] at this)
    clear hn ht
    go_enter Tryd.func3, Tryd.ntmps3
    go_wp2_with fail
    refine (c1.out _).mono ?_
    rintro e w' ⟨rfl, rfl⟩
    go_wp2_with fail
    refine (c2.out _).mono ?_
    rintro e w' ⟨rfl, rfl⟩
    go_wp2_with fail
    refine (c3.out _).mono ?_
    rintro e w' ⟨rfl, rfl⟩
    go_wp2_with fail
    refine (c4.out _).mono ?_
    rintro e w' ⟨rfl, rfl⟩
    go_wp2_with fail
    refine (shown_any _ HT.out).mono ?_
    rintro e w1 ⟨rfl, hb⟩
    go_wp2_with fail
    go_ret
    exact ⟨by simp, hb⟩
end Go.Proofs.YtdncfignegagjaaDoor
