import Derived.Test.YtdncfignegagjaaDoorW1
namespace Go.Proofs.YtdncfignegagjaaDoor
open Go.RowKit

def nameC (c : UInt8) : Bool := letterB (c.toNat : Int) || digitB (c.toNat : Int) || decide ((c.toNat : Int) = 95)
def nameB (l : List UInt8) : Bool := decide (1 ≤ l.length) && decide (l.length ≤ 16) && letterB ((l.headD 0).toNat : Int) && l.all nameC

theorem head_eq (s : ByteArray) (h : 0 < s.size) : s.data.toList.headD 0 = s[0] := by
  have : s.data.toList ≠ [] := by
    intro e
    have h1 : s.data.toList.length = s.size := rfl
    rw [e] at h1; simp at h1; omega
  rw [List.headD_eq_head?_getD, List.head?_eq_getElem?, List.getElem?_eq_getElem (by simpa using h)]
  rfl
theorem len_eq (s : ByteArray) : s.data.toList.length = s.size := by simp
theorem all_take_succ (f : UInt8 → Bool) (s : ByteArray) (k : Nat) (h : k < s.size) (h1 : (s.data.toList.take k).all f = true)
   (h2 : f s[k] = true) : (s.data.toList.take (k+1)).all f = true := by
  rw [List.take_succ_eq_append_getElem (by simpa using h), List.all_append, h1]
  have : s.data.toList[k] = s[k] := rfl
  simp [this, h2]
theorem all_false (f : UInt8 → Bool) (s : ByteArray) (k : Nat) (h : k < s.size) (h2 : f s[k] = false) : s.data.toList.all f = false := by
  rw [List.all_eq_false]
  refine ⟨s[k], ?_, by simp [h2]⟩
  show s.data.toList[k] ∈ _
  exact List.getElem_mem _
theorem nameC_yes {c : UInt8} (h : letterB (c.toNat : Int) = true ∨ digitB (c.toNat : Int) = true ∨ (c.toNat : Int) = 95) : nameC c = true := by
  unfold nameC; rcases h with h | h | h <;> simp [h]
theorem nameC_no {c : UInt8} (h1 : letterB (c.toNat : Int) = false) (h2 : digitB (c.toNat : Int) = false) (h3 : ¬ (c.toNat : Int) = 95) : nameC c = false := by
  unfold nameC; simp [h1, h2, h3]

theorem toL (s : ByteArray) : s.toList = s.data.toList := ByteArray.toList_eq s
theorem empty_yes (s : ByteArray) (h : s.size = 0) : s.toList = [] := by
  rw [toL]; apply List.eq_nil_of_length_eq_zero; rw [len_eq]; exact h
theorem isEmpty_yes (s : ByteArray) (h : s.size = 0) : s.toList.isEmpty = true := by rw [empty_yes s h]; rfl
theorem empty_no (s : ByteArray) (h : 0 < s.size) : ¬ s.toList = [] := by
  rw [toL]; intro e; have h1 : s.data.toList.length = s.size := rfl
  rw [e] at h1; simp at h1; omega
theorem isEmpty_no (s : ByteArray) (h : 0 < s.size) : s.toList.isEmpty = false := by
  rw [List.isEmpty_eq_false_iff]; exact empty_no s h

theorem nameB_l {l : List UInt8} (h : letterB ((l.headD 0).toNat : Int) = false) : nameB l = false := by
  unfold nameB; rw [h]; simp
theorem nameB_g {l : List UInt8} (h : letterB ((l.headD 0).toNat : Int) = true) (h1 : 1 ≤ l.length) (h2 : l.length ≤ 16) : nameB l = l.all nameC := by
  unfold nameB; rw [h]; simp only [h1, h2, decide_true, Bool.true_and]

set_option maxHeartbeats 400000 in
theorem name_any (s : ByteArray) (w : World) (hs : s.size ≤ maxLen) :
    Calls Tryd.prog 14 #[.string s] w fun e w' => e = .returned (.bool (nameB s.data.toList)) ∧ w = w' := by
  unfold maxLen at hs
  by_cases h0 : s.size = 0
  · have hf := Lib.hid (show nameB s.data.toList = false by simp [nameB, h0])
    have he := empty_yes s h0
    have he2 := isEmpty_yes s h0
    clear h0
    go_enter Tryd.func14, Tryd.ntmps14
    go_wp2_with fail
    go_ret
    exact ⟨ret_bool hf.out.symm, rfl⟩
  have hpos : 0 < s.size := by omega
  have he := empty_no s hpos
  have he2 := isEmpty_no s hpos
  have hh := Lib.hid (head_eq s hpos)
  by_cases h16 : 16 < s.size
  · have hf := Lib.hid (show nameB s.data.toList = false by simp [nameB]; omega)
    go_enter Tryd.func14, Tryd.ntmps14
    go_wp2_with fail
    go_ret
    exact ⟨ret_bool hf.out.symm, rfl⟩
  cases hl : letterB (s[0].toNat : Int)
  · have hf := Lib.hid (nameB_l (by rw [head_eq s hpos]; exact hl))
    have HL := Lib.hid hl
    clear hl
    go_enter Tryd.func14, Tryd.ntmps14
    go_wp2_with (go_at_call 42; refine (letter_any _ _).mono ?_; rintro e w' ⟨rfl, rfl⟩; rw [HL.out])
    go_ret
    exact ⟨ret_bool hf.out.symm, rfl⟩
  have hf := Lib.hid (nameB_g (by rw [head_eq s hpos]; exact hl) (by rw [len_eq]; omega) (by rw [len_eq]; omega))
  have HL := Lib.hid hl
  clear hl
  go_enter Tryd.func14, Tryd.ntmps14
  go_wp2_with (go_at_call 42; refine (letter_any _ _).mono ?_; rintro e w' ⟨rfl, rfl⟩; rw [HL.out])
  go_loop [20] (fun i => ∃ k : Nat, k ≤ s.size ∧ i = .int .i64 k ∧ (s.data.toList.take k).all nameC = true) (fun i => s.size - (intOf i).toNat)
  case atStart => exact ⟨0, Nat.zero_le _, rfl, rfl⟩
  case round =>
    obtain ⟨k, hk, rfl, hr⟩ := hrel
    have Hr := Lib.hid hr
    clear hr
    by_cases hlt : k < s.size
    · cases h1 : letterB (s[k].toNat : Int)
      · cases h2 : digitB (s[k].toNat : Int)
        · have H1 := Lib.hid h1; have H2 := Lib.hid h2; clear h1 h2
          by_cases h3 : (s[k].toNat : Int) = 95
          · have h4 := Lib.hid h3
            have h5 : ((s[k].toNat : Int) == 95) = true := by simp [h3]
            have h6 : ((s[k].toNat : Int) != 95) = false := by simp [h3]
            clear h3
            go_wp2_with (first
              | (go_at_call 42; refine (letter_any _ _).mono ?_; rintro e w' ⟨rfl, rfl⟩; rw [H1.out])
              | (go_at_call 43; refine (digit_any _ _).mono ?_; rintro e w' ⟨rfl, rfl⟩; rw [H2.out]))
            go_round
            case rel => exact ⟨k + 1, by omega, by go_num, all_take_succ _ s k hlt Hr.out (nameC_yes (.inr (.inr h4.out)))⟩
            case measure => simp [intOf]; omega
          · have h4 := Lib.hid h3
            have h5 : ((s[k].toNat : Int) == 95) = false := by simp [h3]
            have h6 : ((s[k].toNat : Int) != 95) = true := by simp [h3]
            clear h3
            go_wp2_with (first
              | (go_at_call 42; refine (letter_any _ _).mono ?_; rintro e w' ⟨rfl, rfl⟩; rw [H1.out])
              | (go_at_call 43; refine (digit_any _ _).mono ?_; rintro e w' ⟨rfl, rfl⟩; rw [H2.out]))
            go_ret
            exact ⟨ret_bool (by rw [hf.out]; exact (all_false _ s k hlt (nameC_no H1.out H2.out h4.out)).symm), rfl⟩
        · have H1 := Lib.hid h1; have H2 := Lib.hid h2; clear h1 h2
          go_wp2_with (first
              | (go_at_call 42; refine (letter_any _ _).mono ?_; rintro e w' ⟨rfl, rfl⟩; rw [H1.out])
              | (go_at_call 43; refine (digit_any _ _).mono ?_; rintro e w' ⟨rfl, rfl⟩; rw [H2.out]))
          go_round
          case rel => exact ⟨k + 1, by omega, by go_num, all_take_succ _ s k hlt Hr.out (nameC_yes (.inr (.inl H2.out)))⟩
          case measure => simp [intOf]; omega
      · have H1 := Lib.hid h1; clear h1
        go_wp2_with (first
              | (go_at_call 42; refine (letter_any _ _).mono ?_; rintro e w' ⟨rfl, rfl⟩; rw [H1.out]))
        go_round
        case rel => exact ⟨k + 1, by omega, by go_num, all_take_succ _ s k hlt Hr.out (nameC_yes (.inl H1.out))⟩
        case measure => simp [intOf]; omega
    · go_wp2_with fail
      go_ret
      refine ⟨ret_bool ?_, rfl⟩
      have := Hr.out
      rw [List.take_of_length_le (by simp; omega)] at this
      rw [hf.out, this]
end Go.Proofs.YtdncfignegagjaaDoor
