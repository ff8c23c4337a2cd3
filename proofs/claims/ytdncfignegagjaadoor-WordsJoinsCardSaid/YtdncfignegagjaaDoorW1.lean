import Derived.Test.YtdncfignegagjaaDoorW0
namespace Go.Proofs.YtdncfignegagjaaDoor
open Go.RowKit

def inR (lo hi : Int) (l : List UInt8) : Bool := l.all fun c => decide (lo ≤ (c.toNat : Int)) && decide ((c.toNat : Int) ≤ hi)

theorem inR_take_succ {lo hi : Int} (s : ByteArray) (k : Nat) (h : k < s.size) (h1 : inR lo hi (s.data.toList.take k) = true)
   (h2 : lo ≤ (s[k].toNat : Int)) (h3 : (s[k].toNat : Int) ≤ hi) : inR lo hi (s.data.toList.take (k+1)) = true := by
  rw [List.take_succ_eq_append_getElem (by simpa using h)]
  unfold inR at *
  rw [List.all_append, h1]
  have : s.data.toList[k] = s[k] := rfl
  simp [this, h2, h3]
theorem inR_false {lo hi : Int} (s : ByteArray) (k : Nat) (h : k < s.size)
   (h2 : ¬ (lo ≤ (s[k].toNat : Int) ∧ (s[k].toNat : Int) ≤ hi)) : inR lo hi s.data.toList = false := by
  unfold inR
  rw [List.all_eq_false]
  refine ⟨s[k], ?_, ?_⟩
  · show s.data.toList[k] ∈ _
    exact List.getElem_mem _
  · simp; omega

theorem ret_bool {a b : Bool} (h : a = b) : Ending.returned (.bool a) = .returned (.bool b) := by rw [h]
theorem ret_str {a b : ByteArray} (h : a = b) : Ending.returned (.string a) = .returned (.string b) := by rw [h]
theorem ret_int {k : IntKind} {a b : Int} (h : a = b) : Ending.returned (.int k a) = .returned (.int k b) := by rw [h]
theorem ret_val {a b : Value} (h : a = b) : Ending.returned a = .returned b := by rw [h]

set_option maxHeartbeats 400000 in
theorem within_any (s : ByteArray) (lo hi : Int) (w : World) (hs : s.size ≤ maxLen) :
    Calls Tryd.prog 46 #[.string s, .int .u8 lo, .int .u8 hi] w fun e w' => e = .returned (.bool (inR lo hi s.data.toList)) ∧ w = w' := by
  unfold maxLen at hs
  go_enter Tryd.func46, Tryd.ntmps46
  go_wp2
  go_loop [10] (fun i => ∃ k : Nat, k ≤ s.size ∧ i = .int .i64 k ∧ inR lo hi (s.data.toList.take k) = true) (fun i => s.size - (intOf i).toNat)
  case atStart => exact ⟨0, Nat.zero_le _, rfl, rfl⟩
  case round =>
    obtain ⟨k, hk, rfl, hr⟩ := hrel
    by_cases hlt : k < s.size
    · have Hr := Lib.hid hr
      clear hr
      by_cases h1 : (s[k].toNat : Int) < lo
      · have hf := Lib.hid (inR_false (lo := lo) (hi := hi) s k hlt (by omega))
        go_wp2
        go_ret
        exact ⟨ret_bool hf.out.symm, rfl⟩
      · by_cases h2 : hi < (s[k].toNat : Int)
        · have hf := Lib.hid (inR_false (lo := lo) (hi := hi) s k hlt (by omega))
          go_wp2
          go_ret
          exact ⟨ret_bool hf.out.symm, rfl⟩
        · go_wp2
          go_round
          case rel => exact ⟨k + 1, by omega, by go_num, inR_take_succ s k hlt Hr.out (by omega) (by omega)⟩
          case measure => simp [intOf]; omega
    · have Hr := Lib.hid hr
      clear hr
      go_wp2
      go_ret
      refine ⟨ret_bool ?_, rfl⟩
      have := Hr.out
      rw [List.take_of_length_le (by simp; omega)] at this
      rw [this]

def textB (l : List UInt8) : Bool := decide (l.length ≤ 200) && inR 32 126 l
theorem textB_no {l : List UInt8} (h : ¬ l.length ≤ 200) : textB l = false := by simp [textB, h]
theorem textB_yes {l : List UInt8} (h : l.length ≤ 200) : textB l = inR 32 126 l := by simp [textB, h]

set_option maxHeartbeats 400000 in
theorem text_any (s : ByteArray) (w : World) (hs : s.size ≤ maxLen) :
    Calls Tryd.prog 16 #[.string s] w fun e w' => e = .returned (.bool (textB s.data.toList)) ∧ w = w' := by
  have hs0 := hs
  unfold maxLen at hs
  by_cases h : s.size ≤ 200
  · have hf := Lib.hid (textB_yes (l := s.data.toList) (by simpa using h))
    go_enter Tryd.func16, Tryd.ntmps16
    go_wp2_with (go_at_call 46; refine (within_any _ _ _ _ hs0).mono ?_; rintro e w' ⟨rfl, rfl⟩)
    go_ret
    exact ⟨ret_bool hf.out.symm, rfl⟩
  · have hf := Lib.hid (textB_no (l := s.data.toList) (by simpa using h))
    go_enter Tryd.func16, Tryd.ntmps16
    go_wp2
    go_ret
    exact ⟨ret_bool hf.out.symm, rfl⟩

def letterB (c : Int) : Bool := (decide (97 ≤ c) && decide (c ≤ 122)) || (decide (65 ≤ c) && decide (c ≤ 90))
def digitB (c : Int) : Bool := decide (48 ≤ c) && decide (c ≤ 57)

set_option maxHeartbeats 400000 in
theorem letter_any (c : Int) (w : World) :
    Calls Tryd.prog 42 #[.int .u8 c] w fun e w' => e = .returned (.bool (letterB c)) ∧ w = w' := by
  have hf := Lib.hid (show letterB c = ((decide (97 ≤ c) && decide (c ≤ 122)) || (decide (65 ≤ c) && decide (c ≤ 90))) from rfl)
  by_cases h1 : 97 ≤ c <;> by_cases h2 : c ≤ 122 <;> by_cases h3 : 65 ≤ c <;> by_cases h4 : c ≤ 90 <;> first | omega |
   (go_enter Tryd.func42, Tryd.ntmps42
    go_wp2
    go_ret
    exact ⟨ret_bool (by rw [hf.out]; simp [h1, h2, h3, h4]), rfl⟩)

set_option maxHeartbeats 400000 in
theorem digit_any (c : Int) (w : World) :
    Calls Tryd.prog 43 #[.int .u8 c] w fun e w' => e = .returned (.bool (digitB c)) ∧ w = w' := by
  have hf := Lib.hid (show digitB c = ((decide (48 ≤ c) && decide (c ≤ 57))) from rfl)
  by_cases h1 : 48 ≤ c <;> by_cases h2 : c ≤ 57 <;> first | omega |
   (go_enter Tryd.func43, Tryd.ntmps43
    go_wp2
    go_ret
    exact ⟨ret_bool (by rw [hf.out]; simp [h1, h2]), rfl⟩)

def noteB (n : Int) : Bool := decide (0 ≤ n) && decide (n ≤ 127)
set_option maxHeartbeats 400000 in
theorem note_any (n : Int) (w : World) :
    Calls Tryd.prog 51 #[.int .i64 n] w fun e w' => e = .returned (.bool (noteB n)) ∧ w = w' := by
  have hf := Lib.hid (show noteB n = ((decide (0 ≤ n) && decide (n ≤ 127))) from rfl)
  by_cases h1 : 0 ≤ n <;> by_cases h2 : n ≤ 127 <;> first | omega |
   (go_enter Tryd.func51, Tryd.ntmps51
    go_wp2
    go_ret
    exact ⟨ret_bool (by rw [hf.out]; simp [h1, h2]), rfl⟩)

end Go.Proofs.YtdncfignegagjaaDoor
