import Derived.Test.YtdncfignegagjaaDoorR7
namespace Go.Proofs.YtdncfignegagjaaDoor
open Go.RowKit

/-! The reference's whole number. -/
theorem trim_minus {l : List UInt8} (h : l.headD 0 = 45) : Lib.trimPrefix l [45] = l.drop 1 := by
  cases l with
  | nil => simp at h
  | cons c r => simp at h; subst h; simp [Lib.trimPrefix, Lib.hasPrefix]
theorem trim_other {l : List UInt8} (h : l.headD 0 ≠ 45) : Lib.trimPrefix l [45] = l := by
  cases l with
  | nil => simp [Lib.trimPrefix]
  | cons c r => simp at h; unfold Lib.trimPrefix; rw [if_neg]; simp [Lib.hasPrefix]; exact fun e => h e.symm
/-- What follows the sign. -/
theorem whole_bad {l d : List UInt8} (hd : Lib.trimPrefix l [45] = d) (h : inR 48 57 d = false) : wholeB l = false := by
  have h0 : l ≠ [48] := by rintro rfl; subst hd; revert h; decide
  unfold wholeB
  rw [hd, h, decide_eq_false h0]; simp
theorem whole_none {l : List UInt8} (hd : Lib.trimPrefix l [45] = []) : wholeB l = false :=
  wholeB_empty (by rintro rfl; revert hd; decide) hd
theorem whole_lead {l d : List UInt8} (hd : Lib.trimPrefix l [45] = d) (h : (d.headD 0).toNat = 48) (h1 : 1 < d.length) : wholeB l = false :=
  wholeB_lead (by rintro rfl; subst hd; revert h1; decide) (by rw [hd]; exact h)
theorem whole_good {l d : List UInt8} (hd : Lib.trimPrefix l [45] = d) (h0 : d ≠ []) (h : (d.headD 0).toNat ≠ 48) (h1 : inR 48 57 d = true) : wholeB l = true := by
  unfold wholeB
  rw [hd, h1, decide_eq_true h0, decide_eq_true h]; simp
theorem whole_mz : wholeB [45, 48] = false := by decide
theorem whole_z : wholeB [48] = true := by decide
theorem drop_take_succ (s : ByteArray) (f k : Nat) (hf : f ≤ k) (h : k < s.size) {lo hi : Int} (h1 : inR lo hi ((s.data.toList.take k).drop f) = true)
    (h2 : lo ≤ (s[k].toNat : Int)) (h3 : (s[k].toNat : Int) ≤ hi) : inR lo hi ((s.data.toList.take (k + 1)).drop f) = true := by
  have hk : k < s.data.toList.length := by simpa using h
  rw [List.take_succ_eq_append_getElem hk, List.drop_append_of_le_length (by rw [List.length_take]; omega)]
  refine inR_append.2 ⟨h1, ?_⟩
  have e : s.data.toList[k] = s[k] := by simp [ByteArray.getElem_eq_getElem_data]
  simp only [e, inR, List.all_cons, List.all_nil, Bool.and_true, Bool.and_eq_true, decide_eq_true_eq]
  exact ⟨h2, h3⟩
theorem drop_false (s : ByteArray) (f k : Nat) (hf : f ≤ k) (h : k < s.size) {lo hi : Int} (h2 : ¬ (lo ≤ (s[k].toNat : Int) ∧ (s[k].toNat : Int) ≤ hi)) : inR lo hi (s.data.toList.drop f) = false := by
  have hk : k < s.data.toList.length := by simpa using h
  apply Bool.eq_false_iff.2
  intro hc
  unfold inR at hc
  have hm : s[k] ∈ s.data.toList.drop f := by
    refine List.mem_iff_getElem.2 ⟨k - f, by simp; have : s.data.size = s.size := rfl; omega, ?_⟩
    simp only [List.getElem_drop]
    simp [ByteArray.getElem_eq_getElem_data, Nat.add_sub_cancel' hf]
  have := List.all_eq_true.1 hc _ hm
  simp at this
  omega
theorem drop_head (s : ByteArray) (f : Nat) (h : f < s.size) : (s.data.toList.drop f).headD 0 = s[f] := by
  have hk : f < s.data.toList.length := by simpa using h
  rw [List.drop_eq_getElem_cons hk]
  simp [ByteArray.getElem_eq_getElem_data]

theorem digit_not {c : Int} (h : digitB c = false) : ¬ (48 ≤ c ∧ c ≤ 57) := by simp [digitB] at h; omega
theorem digit_yes {c : Int} (h : digitB c = true) : 48 ≤ c ∧ c ≤ 57 := by simp [digitB] at h; omega

set_option maxHeartbeats 1000000 in
theorem rwhole_plain (s : ByteArray) (w : World) (hs : s.size ≤ maxLen) (hpos : 0 < s.size) (h45 : (s[0].toNat : Int) ≠ 45) :
    Calls Tryd.prog 49 #[.string s] w fun e w' => e = .returned (.bool (wholeB s.data.toList)) ∧ w = w' := by
  unfold maxLen at hs
  have ht : Lib.trimPrefix s.data.toList [45] = s.data.toList.drop 0 := by
    rw [List.drop_zero]; exact trim_other (by rw [head_eq s hpos]; intro e; apply h45; rw [e]; rfl)
  have Ht := Lib.hid ht
  clear ht
  have q1 : ((s[0].toNat : Int) == 45) = false := by simp [h45]
  have q2 : ((s[0].toNat : Int) != 45) = true := by simp [h45]
  have h45' := Lib.hid h45
  clear h45
  go_enter Tryd.func49, Tryd.ntmps49
  go_wp2_with fail
  go_loop [4] (fun i => ∃ k : Nat, k ≤ s.size ∧ i = .int .i64 k ∧ inR 48 57 ((s.data.toList.take k).drop 0) = true) (fun i => s.size - (intOf i).toNat)
  case atStart => exact ⟨0, Nat.zero_le _, rfl, rfl⟩
  case round =>
    obtain ⟨k, hk, rfl, hr⟩ := hrel
    have Hr := Lib.hid hr
    clear hr
    by_cases hlt : k < s.size
    · cases h2 : digitB (s[k].toNat : Int)
      · have H2 := Lib.hid h2; clear h2
        have hf := Lib.hid (whole_bad Ht.out (drop_false s 0 k (by omega) hlt (digit_not H2.out)))
        go_wp2_with (go_at_call 45; refine (rdigit_any _ _).mono ?_; rintro e w' ⟨rfl, rfl⟩; rw [H2.out])
        go_ret
        exact ⟨ret_bool hf.out.symm, rfl⟩
      · have H2 := Lib.hid h2; clear h2
        go_wp2_with (go_at_call 45; refine (rdigit_any _ _).mono ?_; rintro e w' ⟨rfl, rfl⟩; rw [H2.out])
        go_round
        case rel => exact ⟨k + 1, by omega, by go_num, drop_take_succ s 0 k (by omega) hlt Hr.out (digit_yes H2.out).1 (digit_yes H2.out).2⟩
        case measure => simp [intOf]; omega
    · have hall := Hr.out
      rw [List.take_of_length_le (by simp; omega)] at hall
      have Hall := Lib.hid hall
      clear hall
      have c1 : ((s.size : Int) == 0) = false := beq_false_of_ne (by omega)
      have c2 : ((s.size : Int) != 0) = true := by simp only [bne, c1]; rfl
      have c3 : ¬ (s.size : Int) = 0 := by omega
      by_cases h48 : (s[0].toNat : Int) = 48
      · have q3 : ((s[0].toNat : Int) == 48) = true := by simp [h48]
        have q4 : ((s[0].toNat : Int) != 48) = false := by simp [h48]
        have H48 := Lib.hid h48
        clear h48
        by_cases h1 : 1 < s.size
        · have hf := Lib.hid (whole_lead Ht.out (by rw [drop_head s 0 hpos]; have := H48.out; omega) (by simp; exact h1))
          go_wp2_with fail
          go_ret
          exact ⟨ret_bool hf.out.symm, rfl⟩
        · have e1 : s.data.toList = [48] := by
            have hl : s.data.toList.length = 1 := by rw [len_eq]; omega
            obtain ⟨c, hc⟩ := List.length_eq_one_iff.1 hl
            have h9 := head_eq s hpos
            rw [hc] at h9
            have := H48.out
            rw [hc]
            simp at h9
            rw [h9]
            congr 1
            apply UInt8.toNat_inj.1
            simpa using (by omega : s[0].toNat = 48)
          have hf := Lib.hid (show wholeB s.data.toList = true by rw [e1]; exact whole_z)
          have b1 : (s.toList == [45, 48]) = false := by rw [toList_beq, e1]; rfl
          have b2 : (s.toList != [45, 48]) = true := by simp [bne, b1]
          have b3 : ([45, 48] == s.toList) = false := by rw [BEq.comm]; exact b1
          clear e1
          go_wp2_with fail
          go_ret
          exact ⟨ret_bool hf.out.symm, rfl⟩
      · have q3 : ((s[0].toNat : Int) == 48) = false := by simp [h48]
        have q4 : ((s[0].toNat : Int) != 48) = true := by simp [h48]
        have H48 := Lib.hid h48
        clear h48
        have hf := Lib.hid (whole_good Ht.out (by intro e; rw [List.drop_zero] at e; have h7 : s.data.toList.length = 0 := (by rw [e]; rfl); rw [len_eq] at h7; omega) (by rw [drop_head s 0 hpos]; have := H48.out; omega) Hall.out)
        have b0 : s.data.toList ≠ [45, 48] := by
          intro e
          have h9 := head_eq s hpos
          rw [e] at h9
          apply h45'.out
          rw [← h9]; rfl
        have b1 : (s.toList == [45, 48]) = false := by rw [toList_beq]; simp [b0]
        have b2 : (s.toList != [45, 48]) = true := by simp [bne, b1]
        clear b0
        go_wp2_with fail
        go_ret
        exact ⟨ret_bool hf.out.symm, rfl⟩

set_option maxHeartbeats 1000000 in
theorem rwhole_minus (s : ByteArray) (w : World) (hs : s.size ≤ maxLen) (hpos : 0 < s.size) (h45 : (s[0].toNat : Int) = 45) :
    Calls Tryd.prog 49 #[.string s] w fun e w' => e = .returned (.bool (wholeB s.data.toList)) ∧ w = w' := by
  unfold maxLen at hs
  have hu : s[0] = 45 := by apply UInt8.toNat_inj.1; simpa using (by omega : s[0].toNat = 45)
  have ht : Lib.trimPrefix s.data.toList [45] = s.data.toList.drop 1 := trim_minus (by rw [head_eq s hpos]; exact hu)
  have Ht := Lib.hid ht
  clear ht
  have q1 : ((s[0].toNat : Int) == 45) = true := by simp [h45]
  have q2 : ((s[0].toNat : Int) != 45) = false := by simp [h45]
  have h45' := Lib.hid h45
  have Hu := Lib.hid hu
  clear h45 hu
  go_enter Tryd.func49, Tryd.ntmps49
  go_wp2_with fail
  go_loop [4] (fun i => ∃ k : Nat, 1 ≤ k ∧ k ≤ s.size ∧ i = .int .i64 k ∧ inR 48 57 ((s.data.toList.take k).drop 1) = true) (fun i => s.size - (intOf i).toNat)
  case atStart => exact ⟨1, by omega, by omega, rfl, by rw [List.drop_take]; rfl⟩
  case round =>
    obtain ⟨k, hk1, hk, rfl, hr⟩ := hrel
    have Hr := Lib.hid hr
    clear hr
    by_cases hlt : k < s.size
    · cases h2 : digitB (s[k].toNat : Int)
      · have H2 := Lib.hid h2; clear h2
        have hf := Lib.hid (whole_bad Ht.out (drop_false s 1 k (by omega) hlt (digit_not H2.out)))
        go_wp2_with (go_at_call 45; refine (rdigit_any _ _).mono ?_; rintro e w' ⟨rfl, rfl⟩; rw [H2.out])
        go_ret
        exact ⟨ret_bool hf.out.symm, rfl⟩
      · have H2 := Lib.hid h2; clear h2
        go_wp2_with (go_at_call 45; refine (rdigit_any _ _).mono ?_; rintro e w' ⟨rfl, rfl⟩; rw [H2.out])
        go_round
        case rel => exact ⟨k + 1, by omega, by omega, by go_num, drop_take_succ s 1 k (by omega) hlt Hr.out (digit_yes H2.out).1 (digit_yes H2.out).2⟩
        case measure => simp [intOf]; omega
    · have hall := Hr.out
      rw [List.take_of_length_le (by simp; omega)] at hall
      have Hall := Lib.hid hall
      clear hall
      by_cases hsz : s.size = 1
      · have c1 : ((s.size : Int) == 1) = true := beq_iff_eq.2 (by omega)
        have c2 : ((s.size : Int) != 1) = false := by simp only [bne, c1]; rfl
        have c3 : (s.size : Int) = 1 := by omega
        have hf := Lib.hid (whole_none (by rw [Ht.out]; exact List.drop_eq_nil_of_le (by rw [len_eq]; omega)))
        go_wp2_with fail
        go_ret
        exact ⟨ret_bool hf.out.symm, rfl⟩
      have hp1 : 1 < s.size := by omega
      have c1 : ((s.size : Int) == 1) = false := beq_false_of_ne (by omega)
      have c2 : ((s.size : Int) != 1) = true := by simp only [bne, c1]; rfl
      have c3 : ¬ (s.size : Int) = 1 := by omega
      by_cases h48 : (s[1].toNat : Int) = 48
      · have q3 : ((s[1].toNat : Int) == 48) = true := by simp [h48]
        have q4 : ((s[1].toNat : Int) != 48) = false := by simp [h48]
        have H48 := Lib.hid h48
        clear h48
        by_cases h1 : 2 < s.size
        · have hf := Lib.hid (whole_lead Ht.out (by rw [drop_head s 1 hp1]; have := H48.out; omega) (by simp; have : s.data.size = s.size := rfl; omega))
          go_wp2_with fail
          go_ret
          exact ⟨ret_bool hf.out.symm, rfl⟩
        · have e1 : s.data.toList = [45, 48] := by
            have hl : s.data.toList.length = 2 := by rw [len_eq]; omega
            obtain ⟨c, d, hc⟩ : ∃ c d, s.data.toList = [c, d] := by
              match h : s.data.toList, hl with
              | [c, d], _ => exact ⟨c, d, rfl⟩
            have h9 := head_eq s hpos
            have h8 := drop_head s 1 hp1
            rw [hc] at h9 h8
            have := H48.out
            rw [hc]
            simp at h9 h8
            rw [h9, h8, Hu.out]
            congr 2
            apply UInt8.toNat_inj.1
            simpa using (by omega : s[1].toNat = 48)
          have hf := Lib.hid (show wholeB s.data.toList = false by rw [e1]; exact whole_mz)
          have b1 : (s.toList == [45, 48]) = true := by rw [toList_beq, e1]; rfl
          have b2 : (s.toList != [45, 48]) = false := by simp [bne, b1]
          clear e1
          go_wp2_with fail
          go_ret
          exact ⟨ret_bool hf.out.symm, rfl⟩
      · have q3 : ((s[1].toNat : Int) == 48) = false := by simp [h48]
        have q4 : ((s[1].toNat : Int) != 48) = true := by simp [h48]
        have H48 := Lib.hid h48
        clear h48
        have hf := Lib.hid (whole_good Ht.out (by intro e; have := congrArg List.length e; simp at this; have : s.data.size = s.size := rfl; omega) (by rw [drop_head s 1 hp1]; have := H48.out; omega) Hall.out)
        have b0 : s.data.toList ≠ [45, 48] := by
          intro e
          have h9 := drop_head s 1 hp1
          rw [e] at h9
          apply H48.out
          rw [← h9]; rfl
        have b1 : (s.toList == [45, 48]) = false := by rw [toList_beq]; simp [b0]
        have b2 : (s.toList != [45, 48]) = true := by simp [bne, b1]
        clear b0
        go_wp2_with fail
        go_ret
        exact ⟨ret_bool hf.out.symm, rfl⟩
set_option maxHeartbeats 400000 in
theorem rwhole_any (s : ByteArray) (w : World) (hs : s.size ≤ maxLen) :
    Calls Tryd.prog 49 #[.string s] w fun e w' => e = .returned (.bool (wholeB s.data.toList)) ∧ w = w' := by
  by_cases hpos : 0 < s.size
  · by_cases h45 : (s[0].toNat : Int) = 45
    · exact rwhole_minus s w hs hpos h45
    · exact rwhole_plain s w hs hpos h45
  · have hz : s.size = 0 := by omega
    have e0 : s.data.toList = [] := by rw [← toL]; exact empty_yes s hz
    have hf := Lib.hid (show wholeB s.data.toList = false by rw [e0]; rfl)
    have c1 : ((s.size : Int) == 0) = true := beq_iff_eq.2 (by omega)
    have c2 : ((s.size : Int) != 0) = false := by simp only [bne, c1]; rfl
    have c3 : (s.size : Int) = 0 := by omega
    clear e0 hs
    go_enter Tryd.func49, Tryd.ntmps49
    go_wp2_with fail
    go_loop [4] (fun i => i = .int .i64 0) (fun i => 0)
    case atStart => rfl
    case round =>
      subst hrel
      go_wp2_with fail
      go_ret
      exact ⟨ret_bool hf.out.symm, rfl⟩
end Go.Proofs.YtdncfignegagjaaDoor
