import Derived.Test.YtkoghdgfllichaaDoorKA1
import Derived.Deep.QuietTactic
import Derived.BigQuiet
import Derived.Test.YtkoghdgfllichaaDoorKD1
import Derived.Deep.MidRow
import Derived.Deep.WholeRow
import Derived.Test.YtkoghdgfllichaaDoorTPA
namespace Go.Proofs.YtkoghdgfllichaaDoor.Wn
open Go.RowKit


theorem ret_bool {a b : Bool} (h : a = b) : Ending.returned (.bool a) = .returned (.bool b) := by rw [h]
def letterB (c : Int) : Bool := (decide (97 ≤ c) && decide (c ≤ 122)) || (decide (65 ≤ c) && decide (c ≤ 90))
def digitB (c : Int) : Bool := decide (48 ≤ c) && decide (c ≤ 57)

set_option maxHeartbeats 400000 in
theorem letter_any (c : Int) (w : World) :
    Calls Tryd.prog 139 #[.int .u8 c] w fun e w' => e = .returned (.bool (letterB c)) ∧ w = w' := by
  have hf := Lib.hid (show letterB c = ((decide (97 ≤ c) && decide (c ≤ 122)) || (decide (65 ≤ c) && decide (c ≤ 90))) from rfl)
  by_cases h1 : 97 ≤ c <;> by_cases h2 : c ≤ 122 <;> by_cases h3 : 65 ≤ c <;> by_cases h4 : c ≤ 90 <;> first | omega |
   (go_enter Tryd.func139, Tryd.ntmps139
    go_wp2
    go_ret
    exact ⟨ret_bool (by rw [hf.out]; simp [h1, h2, h3, h4]), rfl⟩)

set_option maxHeartbeats 400000 in
theorem digit_any (c : Int) (w : World) :
    Calls Tryd.prog 140 #[.int .u8 c] w fun e w' => e = .returned (.bool (digitB c)) ∧ w = w' := by
  have hf := Lib.hid (show digitB c = ((decide (48 ≤ c) && decide (c ≤ 57))) from rfl)
  by_cases h1 : 48 ≤ c <;> by_cases h2 : c ≤ 57 <;> first | omega |
   (go_enter Tryd.func140, Tryd.ntmps140
    go_wp2
    go_ret
    exact ⟨ret_bool (by rw [hf.out]; simp [h1, h2]), rfl⟩)



def nameC (c : UInt8) : Bool := letterB (c.toNat : Int) || digitB (c.toNat : Int) || decide ((c.toNat : Int) = 95)
def nameB (l : List UInt8) : Bool := decide (1 ≤ l.length) && decide (l.length ≤ 16) && letterB ((l.headD 0).toNat : Int) && l.all nameC

theorem head_eq (s : ByteArray) (h : 0 < s.size) : s.data.toList.headD 0 = s[0] := by
  have : s.data.toList ≠ [] := by
    intro e
    have h1 : s.data.toList.length = s.size := rfl
    rw [e] at h1; simp at h1; omega
  rw [List.headD_eq_head?_getD, List.head?_eq_getElem?, List.getElem?_eq_getElem (by simpa using h)]
  rfl
theorem len_eq (s : ByteArray) : s.data.toList.length = s.size := by simp
theorem all_take_succ (f : UInt8 → Bool) (s : ByteArray) (k : Nat) (h : k < s.size) (h1 : (s.data.toList.take k).all f = true)
   (h2 : f s[k] = true) : (s.data.toList.take (k+1)).all f = true := by
  rw [List.take_succ_eq_append_getElem (by simpa using h), List.all_append, h1]
  have : s.data.toList[k] = s[k] := rfl
  simp [this, h2]
theorem all_false (f : UInt8 → Bool) (s : ByteArray) (k : Nat) (h : k < s.size) (h2 : f s[k] = false) : s.data.toList.all f = false := by
  rw [List.all_eq_false]
  refine ⟨s[k], ?_, by simp [h2]⟩
  show s.data.toList[k] ∈ _
  exact List.getElem_mem _
theorem nameC_yes {c : UInt8} (h : letterB (c.toNat : Int) = true ∨ digitB (c.toNat : Int) = true ∨ (c.toNat : Int) = 95) : nameC c = true := by
  unfold nameC; rcases h with h | h | h <;> simp [h]
theorem nameC_no {c : UInt8} (h1 : letterB (c.toNat : Int) = false) (h2 : digitB (c.toNat : Int) = false) (h3 : ¬ (c.toNat : Int) = 95) : nameC c = false := by
  unfold nameC; simp [h1, h2, h3]

theorem toL (s : ByteArray) : s.toList = s.data.toList := ByteArray.toList_eq s
theorem empty_yes (s : ByteArray) (h : s.size = 0) : s.toList = [] := by
  rw [toL]; apply List.eq_nil_of_length_eq_zero; rw [len_eq]; exact h
theorem isEmpty_yes (s : ByteArray) (h : s.size = 0) : s.toList.isEmpty = true := by rw [empty_yes s h]; rfl
theorem empty_no (s : ByteArray) (h : 0 < s.size) : ¬ s.toList = [] := by
  rw [toL]; intro e; have h1 : s.data.toList.length = s.size := rfl
  rw [e] at h1; simp at h1; omega
theorem isEmpty_no (s : ByteArray) (h : 0 < s.size) : s.toList.isEmpty = false := by
  rw [List.isEmpty_eq_false_iff]; exact empty_no s h

theorem nameB_l {l : List UInt8} (h : letterB ((l.headD 0).toNat : Int) = false) : nameB l = false := by
  unfold nameB; rw [h]; simp
theorem nameB_g {l : List UInt8} (h : letterB ((l.headD 0).toNat : Int) = true) (h1 : 1 ≤ l.length) (h2 : l.length ≤ 16) : nameB l = l.all nameC := by
  unfold nameB; rw [h]; simp only [h1, h2, decide_true, Bool.true_and]

set_option maxHeartbeats 400000 in
theorem name_any (s : ByteArray) (w : World) (hs : s.size ≤ maxLen) :
    Calls Tryd.prog 126 #[.string s] w fun e w' => e = .returned (.bool (nameB s.data.toList)) ∧ w = w' := by
  unfold maxLen at hs
  by_cases h0 : s.size = 0
  · have hf := Lib.hid (show nameB s.data.toList = false by simp [nameB, h0])
    have he := empty_yes s h0
    have he2 := isEmpty_yes s h0
    clear h0
    go_enter Tryd.func126, Tryd.ntmps126
    go_wp2_with fail
    go_ret
    exact ⟨ret_bool hf.out.symm, rfl⟩
  have hpos : 0 < s.size := by omega
  have he := empty_no s hpos
  have he2 := isEmpty_no s hpos
  have hh := Lib.hid (head_eq s hpos)
  by_cases h16 : 16 < s.size
  · have hf := Lib.hid (show nameB s.data.toList = false by simp [nameB]; omega)
    go_enter Tryd.func126, Tryd.ntmps126
    go_wp2_with fail
    go_ret
    exact ⟨ret_bool hf.out.symm, rfl⟩
  cases hl : letterB (s[0].toNat : Int)
  · have hf := Lib.hid (nameB_l (by rw [head_eq s hpos]; exact hl))
    have HL := Lib.hid hl
    clear hl
    go_enter Tryd.func126, Tryd.ntmps126
    go_wp2_with (go_at_call 139; refine (letter_any _ _).mono ?_; rintro e w' ⟨rfl, rfl⟩; rw [HL.out])
    go_ret
    exact ⟨ret_bool hf.out.symm, rfl⟩
  have hf := Lib.hid (nameB_g (by rw [head_eq s hpos]; exact hl) (by rw [len_eq]; omega) (by rw [len_eq]; omega))
  have HL := Lib.hid hl
  clear hl
  go_enter Tryd.func126, Tryd.ntmps126
  go_wp2_with (go_at_call 139; refine (letter_any _ _).mono ?_; rintro e w' ⟨rfl, rfl⟩; rw [HL.out])
  go_loop [20] (fun i => ∃ k : Nat, k ≤ s.size ∧ i = .int .i64 k ∧ (s.data.toList.take k).all nameC = true) (fun i => s.size - (intOf i).toNat)
  case atStart => exact ⟨0, Nat.zero_le _, rfl, rfl⟩
  case round =>
    obtain ⟨k, hk, rfl, hr⟩ := hrel
    have Hr := Lib.hid hr
    clear hr
    by_cases hlt : k < s.size
    · cases h1 : letterB (s[k].toNat : Int)
      · cases h2 : digitB (s[k].toNat : Int)
        · have H1 := Lib.hid h1; have H2 := Lib.hid h2; clear h1 h2
          by_cases h3 : (s[k].toNat : Int) = 95
          · have h4 := Lib.hid h3
            have h5 : ((s[k].toNat : Int) == 95) = true := by simp [h3]
            have h6 : ((s[k].toNat : Int) != 95) = false := by simp [h3]
            clear h3
            go_wp2_with (first
              | (go_at_call 139; refine (letter_any _ _).mono ?_; rintro e w' ⟨rfl, rfl⟩; rw [H1.out])
              | (go_at_call 140; refine (digit_any _ _).mono ?_; rintro e w' ⟨rfl, rfl⟩; rw [H2.out]))
            go_round
            case rel => exact ⟨k + 1, by omega, by go_num, all_take_succ _ s k hlt Hr.out (nameC_yes (.inr (.inr h4.out)))⟩
            case measure => simp [intOf]; omega
          · have h4 := Lib.hid h3
            have h5 : ((s[k].toNat : Int) == 95) = false := by simp [h3]
            have h6 : ((s[k].toNat : Int) != 95) = true := by simp [h3]
            clear h3
            go_wp2_with (first
              | (go_at_call 139; refine (letter_any _ _).mono ?_; rintro e w' ⟨rfl, rfl⟩; rw [H1.out])
              | (go_at_call 140; refine (digit_any _ _).mono ?_; rintro e w' ⟨rfl, rfl⟩; rw [H2.out]))
            go_ret
            exact ⟨ret_bool (by rw [hf.out]; exact (all_false _ s k hlt (nameC_no H1.out H2.out h4.out)).symm), rfl⟩
        · have H1 := Lib.hid h1; have H2 := Lib.hid h2; clear h1 h2
          go_wp2_with (first
              | (go_at_call 139; refine (letter_any _ _).mono ?_; rintro e w' ⟨rfl, rfl⟩; rw [H1.out])
              | (go_at_call 140; refine (digit_any _ _).mono ?_; rintro e w' ⟨rfl, rfl⟩; rw [H2.out]))
          go_round
          case rel => exact ⟨k + 1, by omega, by go_num, all_take_succ _ s k hlt Hr.out (nameC_yes (.inr (.inl H2.out)))⟩
          case measure => simp [intOf]; omega
      · have H1 := Lib.hid h1; clear h1
        go_wp2_with (first
              | (go_at_call 139; refine (letter_any _ _).mono ?_; rintro e w' ⟨rfl, rfl⟩; rw [H1.out]))
        go_round
        case rel => exact ⟨k + 1, by omega, by go_num, all_take_succ _ s k hlt Hr.out (nameC_yes (.inl H1.out))⟩
        case measure => simp [intOf]; omega
    · go_wp2_with fail
      go_ret
      refine ⟨ret_bool ?_, rfl⟩
      have := Hr.out
      rw [List.take_of_length_le (by simp; omega)] at this
      rw [hf.out, this]


set_option maxHeartbeats 400000 in
theorem rletter_any (c : Int) (w : World) :
    Calls Tryd.prog 84 #[.int .u8 c] w fun e w' => e = .returned (.bool (letterB c)) ∧ w = w' := by
  have hf := Lib.hid (show letterB c = ((decide (97 ≤ c) && decide (c ≤ 122)) || (decide (65 ≤ c) && decide (c ≤ 90))) from rfl)
  by_cases h1 : 97 ≤ c <;> by_cases h2 : c ≤ 122 <;> by_cases h3 : 65 ≤ c <;> by_cases h4 : c ≤ 90 <;> first | omega |
   (go_enter Tryd.func84, Tryd.ntmps84
    go_wp2
    go_ret
    exact ⟨ret_bool (by rw [hf.out]; simp [h1, h2, h3, h4]), rfl⟩)
set_option maxHeartbeats 400000 in
theorem rdigit_any (c : Int) (w : World) :
    Calls Tryd.prog 85 #[.int .u8 c] w fun e w' => e = .returned (.bool (digitB c)) ∧ w = w' := by
  have hf := Lib.hid (show digitB c = ((decide (48 ≤ c) && decide (c ≤ 57))) from rfl)
  by_cases h1 : 48 ≤ c <;> by_cases h2 : c ≤ 57 <;> first | omega |
   (go_enter Tryd.func85, Tryd.ntmps85
    go_wp2
    go_ret
    exact ⟨ret_bool (by rw [hf.out]; simp [h1, h2]), rfl⟩)

set_option maxHeartbeats 800000 in
theorem rname_any (s : ByteArray) (w : World) (hs : s.size ≤ maxLen) :
    Calls Tryd.prog 45 #[.string s] w fun e w' => e = .returned (.bool (nameB s.data.toList)) ∧ w = w' := by
  unfold maxLen at hs
  by_cases h0 : s.size < 1
  · have hf := Lib.hid (show nameB s.data.toList = false by unfold nameB; rw [decide_eq_false (by rw [len_eq]; omega)]; simp)
    go_enter Tryd.func45, Tryd.ntmps45
    go_wp2_with fail
    go_ret
    exact ⟨ret_bool hf.out.symm, rfl⟩
  have hpos : 0 < s.size := by omega
  by_cases h16 : 16 < s.size
  · have hf := Lib.hid (show nameB s.data.toList = false by simp [nameB]; omega)
    go_enter Tryd.func45, Tryd.ntmps45
    go_wp2_with fail
    go_ret
    exact ⟨ret_bool hf.out.symm, rfl⟩
  cases hl : letterB (s[0].toNat : Int)
  · have hf := Lib.hid (nameB_l (by rw [head_eq s hpos]; exact hl))
    have HL := Lib.hid hl
    clear hl
    go_enter Tryd.func45, Tryd.ntmps45
    go_wp2_with (go_at_call 84; refine (rletter_any _ _).mono ?_; rintro e w' ⟨rfl, rfl⟩; rw [HL.out])
    go_ret
    exact ⟨ret_bool hf.out.symm, rfl⟩
  have hf := Lib.hid (nameB_g (by rw [head_eq s hpos]; exact hl) (by rw [len_eq]; omega) (by rw [len_eq]; omega))
  have HL := Lib.hid hl
  clear hl
  go_enter Tryd.func45, Tryd.ntmps45
  go_wp2_with (go_at_call 84; refine (rletter_any _ _).mono ?_; rintro e w' ⟨rfl, rfl⟩; rw [HL.out])
  go_loop [3] (fun i => ∃ k : Nat, k ≤ s.size ∧ i = .int .i64 k ∧ (s.data.toList.take k).all nameC = true) (fun i => s.size - (intOf i).toNat)
  case atStart => exact ⟨0, Nat.zero_le _, rfl, rfl⟩
  case round =>
    obtain ⟨k, hk, rfl, hr⟩ := hrel
    have Hr := Lib.hid hr
    clear hr
    by_cases hlt : k < s.size
    · cases h1 : letterB (s[k].toNat : Int)
      · cases h2 : digitB (s[k].toNat : Int)
        · have H1 := Lib.hid h1; have H2 := Lib.hid h2; clear h1 h2
          by_cases h3 : (s[k].toNat : Int) = 95
          · have h4 := Lib.hid h3
            have h5 : ((s[k].toNat : Int) == 95) = true := by simp [h3]
            have h6 : ((s[k].toNat : Int) != 95) = false := by simp [h3]
            clear h3
            go_wp2_with (first
              | (go_at_call 84; refine (rletter_any _ _).mono ?_; rintro e w' ⟨rfl, rfl⟩; rw [H1.out])
              | (go_at_call 85; refine (rdigit_any _ _).mono ?_; rintro e w' ⟨rfl, rfl⟩; rw [H2.out]))
            go_round
            case rel => exact ⟨k + 1, by omega, by go_num, all_take_succ _ s k hlt Hr.out (nameC_yes (.inr (.inr h4.out)))⟩
            case measure => simp [intOf]; omega
          · have h4 := Lib.hid h3
            have h5 : ((s[k].toNat : Int) == 95) = false := by simp [h3]
            have h6 : ((s[k].toNat : Int) != 95) = true := by simp [h3]
            clear h3
            go_wp2_with (first
              | (go_at_call 84; refine (rletter_any _ _).mono ?_; rintro e w' ⟨rfl, rfl⟩; rw [H1.out])
              | (go_at_call 85; refine (rdigit_any _ _).mono ?_; rintro e w' ⟨rfl, rfl⟩; rw [H2.out]))
            go_ret
            exact ⟨ret_bool (by rw [hf.out]; exact (all_false _ s k hlt (nameC_no H1.out H2.out h4.out)).symm), rfl⟩
        · have H1 := Lib.hid h1; have H2 := Lib.hid h2; clear h1 h2
          go_wp2_with (first
              | (go_at_call 84; refine (rletter_any _ _).mono ?_; rintro e w' ⟨rfl, rfl⟩; rw [H1.out])
              | (go_at_call 85; refine (rdigit_any _ _).mono ?_; rintro e w' ⟨rfl, rfl⟩; rw [H2.out]))
          go_round
          case rel => exact ⟨k + 1, by omega, by go_num, all_take_succ _ s k hlt Hr.out (nameC_yes (.inr (.inl H2.out)))⟩
          case measure => simp [intOf]; omega
      · have H1 := Lib.hid h1; clear h1
        go_wp2_with (first
              | (go_at_call 84; refine (rletter_any _ _).mono ?_; rintro e w' ⟨rfl, rfl⟩; rw [H1.out]))
        go_round
        case rel => exact ⟨k + 1, by omega, by go_num, all_take_succ _ s k hlt Hr.out (nameC_yes (.inl H1.out))⟩
        case measure => simp [intOf]; omega
    · go_wp2_with fail
      go_ret
      refine ⟨ret_bool ?_, rfl⟩
      have := Hr.out
      rw [List.take_of_length_le (by simp; omega)] at this
      rw [hf.out, this]


end Go.Proofs.YtkoghdgfllichaaDoor.Wn
namespace Go.Proofs.YtkoghdgfllichaaDoor.Tp
open Go.RowKit

set_option maxHeartbeats 1000000 in
theorem cdiv_any (a b M : Int) (w : World) (h1 : -M ≤ a) (h2 : a ≤ M) (h3 : -M ≤ b) (h4 : b ≤ M) (hM : M ≤ 9223372036854775807) :
    Calls Tryd.prog 125 #[.int .i64 a, .int .i64 b] w fun e w' => e = .returned (.int .i64 ((Nat.gcd a.natAbs b.natAbs : Nat) : Int)) ∧ Drawn w w' := by
  obtain ⟨G, hG⟩ : ∃ G, G = Nat.gcd a.natAbs b.natAbs := ⟨_, rfl⟩
  rw [← hG]
  have HG := Lib.hid hG.symm
  clear hG
  go_enter Tryd.func125, Tryd.ntmps125
  go_wp2
  go_loopw [0, 1] (fun va vb wr => GcRel w G M va vb wr) (fun _ vb _ => mAbs vb)
  case atStart => exact ⟨a, b, rfl, rfl, h1, h2, h3, h4, HG.out, Drawn.refl w⟩
  case round =>
    obtain ⟨x, y, rfl, rfl, x1, x2, y1, y2, hg, hdr⟩ := hrel
    have HH := Lib.hid hg
    have HDR := Lib.hid hdr
    clear hg hdr
    by_cases hy : y = 0
    · subst hy
      have hxG : (G : Int) = max x (-x) := by
        have h := HH.out
        rw [Int.natAbs_zero, Nat.gcd_zero_right] at h
        omega
      have HX := Lib.hid hxG
      clear hxG
      go_wp2
      all_goals
        go_ret
        exact ⟨ret_int (by have := HX.out; omega), HDR.out⟩
    · have q1 : (y == 0) = false := beq_false_of_ne hy
      have q2 : (y != 0) = true := by simp [hy]
      have hst := gcd_step x y
      rw [HH.out] at hst
      have hlt : (x.tmod y).natAbs < y.natAbs := by rw [Int.natAbs_tmod]; exact Nat.mod_lt _ (by omega)
      have HST := Lib.hid hst
      have HLT := Lib.hid hlt
      clear hst hlt
      go_wp2
      go_quiet (fail)
      go_wp2
      first
        | exact ⟨⟨y, _, rfl, rfl, y1, y2, by have := HLT.out; omega, by have := HLT.out; omega, HST.out, HDR.out.trans ⟨_, rfl⟩⟩, HLT.out⟩
        | (go_roundw
           case rel => exact ⟨y, _, rfl, rfl, y1, y2, by have := HLT.out; omega, by have := HLT.out; omega, HST.out, HDR.out.trans ⟨_, rfl⟩⟩
           case measure => exact HLT.out)
def R5Rel (w : World) (G M : Nat) (va vb : Value) (wr : World) : Prop := ∃ x y : Nat, va = .int .i64 (x : Int) ∧ vb = .int .i64 (y : Int) ∧ x ≤ M ∧ y ≤ M ∧ Nat.gcd x y = G ∧ Drawn w wr
set_option maxHeartbeats 1000000 in
theorem r5gcd_any (a b : Nat) (w : World) (h1 : a ≤ 9000000000000000000) (h2 : b ≤ 9000000000000000000) :
    Calls Tryd.prog 46 #[.int .i64 (a : Int), .int .i64 (b : Int)] w fun e w' => e = .returned (.int .i64 ((Nat.gcd a b : Nat) : Int)) ∧ Drawn w w' := by
  obtain ⟨G, hG⟩ : ∃ G, G = Nat.gcd a b := ⟨_, rfl⟩
  rw [← hG]
  have HG := Lib.hid hG.symm
  clear hG
  go_enter Tryd.func46, Tryd.ntmps46
  go_wp2
  go_loopw [0, 1] (fun va vb wr => R5Rel w G 9000000000000000000 va vb wr) (fun _ vb _ => mAbs vb)
  case atStart => exact ⟨a, b, rfl, rfl, h1, h2, HG.out, Drawn.refl w⟩
  case round =>
    obtain ⟨x, y, rfl, rfl, x1, y1, hg, hdr⟩ := hrel
    have HH := Lib.hid hg
    have HDR := Lib.hid hdr
    clear hg hdr
    by_cases hy : y = 0
    · subst hy
      have hxG : x = G := by have h := HH.out; rw [Nat.gcd_zero_right] at h; exact h
      have HX := Lib.hid hxG
      clear hxG
      go_wp2
      go_ret
      exact ⟨ret_int (by rw [HX.out]), HDR.out⟩
    · have q0 : ¬ (y : Int) = 0 := by omega
      have q1 : ((y : Int) == 0) = false := beq_false_of_ne q0
      have q2 : ((y : Int) != 0) = true := by simp [hy]
      obtain ⟨r, hr⟩ : ∃ r, r = x % y := ⟨_, rfl⟩
      have hrI : (x : Int) % (y : Int) = (r : Int) := by rw [hr]; exact (Int.natCast_emod x y).symm
      have hst : Nat.gcd y r = G := by rw [← HH.out, hr, Nat.gcd_comm x y, Nat.gcd_rec y x, Nat.gcd_comm]
      have hlt : r < y := by rw [hr]; exact Nat.mod_lt _ (by omega)
      have HST := Lib.hid hst
      clear hst hr
      go_wp2
      go_quiet (fail)
      go_wp2
      first
        | exact ⟨⟨y, r, rfl, by rw [hrI], y1, by omega, HST.out, HDR.out.trans ⟨_, rfl⟩⟩, by rw [hrI]; simp [mAbs]; omega⟩
        | (go_roundw
           case rel => exact ⟨y, r, rfl, by rw [hrI], y1, by omega, HST.out, HDR.out.trans ⟨_, rfl⟩⟩
           case measure => simp [mAbs]; omega)
end Go.Proofs.YtkoghdgfllichaaDoor.Tp
namespace Go.Proofs.YtkoghdgfllichaaDoor.Tp
open Go.RowKit

structure Tm where
  nm : ByteArray
  sy : Bool
  wo : Int
  ps : List (Int × Int)
def fl2 (ps : List (Int × Int)) : List Value := ps.flatMap fun p => [.int .i64 p.1, .int .i64 p.2]
def tmV (T : Tm) : List Value := .string T.nm :: .bool T.sy :: .int .i64 T.wo :: fl2 T.ps
theorem fl2_len (ps : List (Int × Int)) : (fl2 ps).length = 2 * ps.length := by
  induction ps with
  | nil => rfl
  | cons p r ih => show ((fl2 r).length + 2 : Nat) = 2 * (r.length + 1); omega
theorem fl2_cons (p : Int × Int) (r : List (Int × Int)) : fl2 (p :: r) = .int .i64 p.1 :: .int .i64 p.2 :: fl2 r := rfl
theorem fl2_at {ps : List (Int × Int)} {i : Nat} {p : Int × Int} (h : ps[i]? = some p) : (fl2 ps)[2 * i]? = some (.int .i64 p.1) ∧ (fl2 ps)[2 * i + 1]? = some (.int .i64 p.2) := by
  induction ps generalizing i with
  | nil => cases h
  | cons q r ih =>
    rw [fl2_cons]
    match i, h with
    | 0, h => cases h; exact ⟨rfl, rfl⟩
    | i + 1, h =>
      have := ih (i := i) h
      exact this
theorem extract_two {L : List Value} {o : Nat} {a b : Value} (h1 : L[o]? = some a) (h2 : L[o + 1]? = some b) : L.toArray.extract o (o + 2) = #[a, b] := by
  apply Array.ext_getElem?
  intro j
  rw [Array.getElem?_extract]
  have hl : o + 1 < L.length := (List.getElem?_eq_some_iff.1 h2).1
  match j with
  | 0 => simp [h1]; omega
  | 1 => simp [h2]; omega
  | j + 2 => simp; omega
theorem belB (w : World) (o : Obj) : Below w.heap.size w (w.alloc o) := (Below.refl _ _).alloc (Nat.le_refl _) _
theorem idx2 {ps : List (Int × Int)} {i : Nat} {p : Int × Int} (hl : ps.length = 12) (h : ps[i]? = some p) (w : World) :
    (Instr.index 36 (.agg (fl2 ps).toArray) (.int .i64 (i : Int))).run Tryd.prog w = .ok (.agg #[.int .i64 p.1, .int .i64 p.2]) w := by
  have hi : i < 12 := by have := (List.getElem?_eq_some_iff.1 h).1; omega
  obtain ⟨h1, h2⟩ := fl2_at h
  have hx := extract_two h1 h2
  have hI : (0 : Int) ≤ (i : Int) ∧ (i : Int) < 12 := by omega
  simp [Instr.index, run_underlying Tryd.underlying36, asIntOf, go_sem, part]
  rw [if_pos hi, Nat.mul_comm i 2]
  have h3 : List.take 2 (List.drop (2 * i) (fl2 ps)) = [.int .i64 p.1, .int .i64 p.2] := by
    have := congrArg Array.toList hx
    simpa using this
  rw [h3]

/-- Block g holds these values. -/
def RowV (w : World) (g : Nat) (t : TypeId) (L : List Value) : Prop := w.heap[g]? = some (.cells L.toArray t (0, 0))
theorem RowV.cell {w : World} {g : Nat} {t : TypeId} {L : List Value} (h : RowV w g t L) {i : Nat} {x : Value} (hx : L[i]? = some x) : w.cell? ⟨g, i, none⟩ = some x := by
  rw [Go.Joins.cell_of_block h i]; simp [hx]
theorem RowV.range {w : World} {g : Nat} {t : TypeId} {L : List Value} (h : RowV w g t L) {o : Nat} {K : List Value} (hk : ∀ j v, K[j]? = some v → L[o + j]? = some v) : w.rangeAt g o K := fun j v hv => h.cell (hk j v hv)
theorem RowV.of_alloc (w : World) (t : TypeId) (L : List Value) : RowV (w.alloc (.cells L.toArray t)) w.heap.size t L := heap_alloc_new w _
theorem RowV.lt {w : World} {g : Nat} {t : TypeId} {L : List Value} (h : RowV w g t L) : g < w.heap.size := (Array.getElem?_eq_some_iff.1 h).1
theorem RowV.up {w w' : World} {g : Nat} {t : TypeId} {L : List Value} (h : RowV w g t L) (hb : Below w.heap.size w w') : RowV w' g t L := (hb.block g h.lt).trans h
theorem RowV.alloc {w : World} {g : Nat} {t : TypeId} {L : List Value} (h : RowV w g t L) (o : Obj) : RowV (w.alloc o) g t L := h.up (belB w o)
theorem tmV_len (T : Tm) : (tmV T).length = 3 + 2 * T.ps.length := by show (fl2 T.ps).length + 3 = _; rw [fl2_len]; omega
theorem sz2 {ps : List (Int × Int)} (hl : ps.length = 12) : (Tryd.prog.info? 36).map (·.size) = some (fl2 ps).length := by rw [fl2_len, hl]; kernel_rfl
theorem szT {T : Tm} (hl : T.ps.length = 12) : (Tryd.prog.info? 38).map (·.size) = some (tmV T).length := by rw [tmV_len, hl]; kernel_rfl
def pOk (p : Int × Int) : Bool := decide (1 ≤ p.2) && decide (p.2 ≤ 24) && decide (-2 * p.2 ≤ p.1) && decide (p.1 ≤ 2 * p.2)
theorem pOk_iff {p : Int × Int} : pOk p = true ↔ (1 ≤ p.2 ∧ p.2 ≤ 24) ∧ -2 * p.2 ≤ p.1 ∧ p.1 ≤ 2 * p.2 := by
  unfold pOk; simp only [Bool.and_eq_true, decide_eq_true_eq]; constructor
  · rintro ⟨⟨⟨a, b⟩, c⟩, d⟩; exact ⟨⟨a, b⟩, c, d⟩
  · rintro ⟨⟨a, b⟩, c, d⟩; exact ⟨⟨⟨a, b⟩, c⟩, d⟩
def fitsT (T : Tm) : Bool := T.ps.all pOk && (decide (0 ≤ T.wo) && decide (T.wo < 12))
def FtRel (w : World) (L : List Value) (P : List (Int × Int)) (iv : Value) (wr : World) : Prop :=
  ∃ i : Nat, i ≤ 12 ∧ iv = .int .i64 (i : Int) ∧ (∀ p ∈ P.take i, pOk p = true) ∧ RowV wr w.heap.size 38 L ∧ Below w.heap.size w wr
theorem all_take {α : Type} {f : α → Bool} {l : List α} {i : Nat} {x : α} (h : ∀ p ∈ l.take i, f p = true) (hx : l[i]? = some x) (hf : f x = true) : ∀ p ∈ l.take (i + 1), f p = true := by
  intro p hp
  rw [List.take_add_one, hx, List.mem_append] at hp
  rcases hp with hp | hp
  · exact h p hp
  · simp at hp; subst hp; exact hf
theorem all_no {α : Type} {f : α → Bool} {l : List α} {i : Nat} {x : α} (hx : l[i]? = some x) (hf : f x = false) : l.all f = false := by
  rw [Bool.eq_false_iff]
  intro h
  have := List.all_eq_true.1 h x (List.mem_of_getElem? hx)
  rw [hf] at this
  cases this
set_option maxRecDepth 100000 in
set_option maxHeartbeats 1000000 in
theorem fits_any (T : Tm) (w : World) (hl : T.ps.length = 12) : Calls Tryd.prog 90 #[.agg (tmV T).toArray] w fun e w' => e = .returned (.bool (fitsT T)) ∧ Below w.heap.size w w' := by
  have hr := RowV.of_alloc w 38 (tmV T)
  have hc : (w.alloc (.cells (tmV T).toArray 38)).rangeAt w.heap.size 3 (fl2 T.ps) := hr.range fun j v hv => by rw [Nat.add_comm]; exact hv
  have hwo : ∀ W, RowV W w.heap.size 38 (tmV T) → W.cell? ⟨w.heap.size, 2, none⟩ = some (.int .i64 T.wo) := fun W h => h.cell (i := 2) rfl
  have hf : fitsT T = (T.ps.all pOk && (decide (0 ≤ T.wo) && decide (T.wo < 12))) := rfl
  have HF := Lib.hid hf
  have HWO := Lib.hid hwo
  have HR := Lib.hid hr
  have HC := Lib.hid hc
  have HI := Lib.hid (sz2 hl)
  have HX := Lib.hid (fun i p (h : T.ps[i]? = some p) W => idx2 hl h W)
  clear hr hc hwo hf
  generalize fitsT T = FT at *
  generalize tmV T = L at *
  generalize T.ps = P at *
  generalize T.wo = wo at *
  have HL := Lib.hid hl
  clear hl
  go_enter Tryd.func90, Tryd.ntmps90
  go_wp2_with (refine wpList_load_mid rfl 36 _ rfl w.heap.size 3 rfl (fl2 P) _ HC.out Tryd.underlying36 rfl HI.out ?_)
  go_loopw [7] (fun iv wr => FtRel w L P iv wr) (fun iv _ => 12 - (intOf iv).toNat)
  case atStart => exact ⟨0, Nat.zero_le _, rfl, (by simp), HR.out, belB w _⟩
  case round =>
    clear HR HC
    obtain ⟨i, hi, rfl, hok, hrow, hb⟩ := hrel
    have HOK := Lib.hid hok
    have HROW := Lib.hid hrow
    have HB := Lib.hid hb
    clear hok hrow hb
    by_cases hil : i < 12
    · obtain ⟨⟨n, d⟩, hn⟩ : ∃ p, P[i]? = some p := ⟨P[i]'(by have := HL.out; omega), List.getElem?_eq_getElem _⟩
      have hix := fun W => HX.out i (n, d) hn W
      have hilI : (i : Int) < 12 := by omega
      have HN := Lib.hid hn
      clear hn
      simp only at hix
      have hca : d < 1 ∨ (¬ d < 1 ∧ 24 < d) ∨ ((1 ≤ d ∧ d ≤ 24) ∧ n < -2 * d) ∨ ((1 ≤ d ∧ d ≤ 24) ∧ ¬ n < -2 * d ∧ 2 * d < n) ∨ ((1 ≤ d ∧ d ≤ 24) ∧ ¬ n < -2 * d ∧ ¬ 2 * d < n) := by omega
      rcases hca with h1 | ⟨h1, h2⟩ | ⟨⟨h1, h2⟩, h3⟩ | ⟨⟨h1, h2⟩, h3, h4⟩ | ⟨⟨h1, h2⟩, h3, h4⟩
      case' inr.inr.inr.inr =>
        have hp : pOk (n, d) = true := pOk_iff.2 ⟨⟨h1, h2⟩, by simp only; omega, by simp only; omega⟩
        have HP := Lib.hid hp
        clear hp
        go_wp2
        refine ⟨⟨i + 1, by omega, by go_num, all_take HOK.out HN.out HP.out, HROW.out.alloc _, ?_⟩, by simp [intOf]; omega⟩
        exact HB.out.alloc HB.out.size _
      all_goals
        have hp : pOk (n, d) = false := by rw [Bool.eq_false_iff]; intro h; have := pOk_iff.1 h; simp only at this; omega
        have HP := Lib.hid hp
        clear hp
        go_wp2
        go_ret
        refine ⟨?_, HB.out.alloc HB.out.size _⟩
        rw [HF.out, all_no HN.out HP.out]
        rfl
    · obtain rfl : i = 12 := by omega
      have hwo := HWO.out _ HROW.out
      have ha : P.all pOk = true := List.all_eq_true.2 fun y hy => HOK.out y (by rw [List.take_of_length_le (by have := HL.out; omega)]; exact hy)
      have HA := Lib.hid ha
      clear ha
      by_cases h1 : wo < 0
      · go_wp2
        go_ret
        refine ⟨?_, HB.out⟩
        rw [HF.out, HA.out, decide_eq_false (by omega)]
        rfl
      · have h1' : 0 ≤ wo := by omega
        by_cases h2 : wo < 12
        · go_wp2
          go_ret
          refine ⟨?_, HB.out⟩
          rw [HF.out, HA.out, decide_eq_true h1', decide_eq_true h2]
          rfl
        · go_wp2
          go_ret
          refine ⟨?_, HB.out⟩
          rw [HF.out, HA.out, decide_eq_true h1', decide_eq_false (by omega)]
          rfl
end Go.Proofs.YtkoghdgfllichaaDoor.Tp
namespace Go.Proofs.YtkoghdgfllichaaDoor.Tp
open Go.RowKit

theorem eq_part (d : Nat) (x y a b : Int) (w : World) : (Op.equalIn (d + 2) 35 (.agg #[.int .i64 x, .int .i64 y]) (.agg #[.int .i64 a, .int .i64 b])).run Tryd.prog w = .ok (x == a && y == b) w := by
  have hf : Tryd.prog.fieldsOf 35 = #[{ name := "Num", type := 3, offset := 0, embedded := false, tag := "", pkgPath := "", byteOffset := 0 }, { name := "Den", type := 3, offset := 1, embedded := false, tag := "", pkgPath := "", byteOffset := 8 }] := by kernel_rfl
  rw [run_equalIn_struct w (d + 1) 35 _ _ (by kernel_rfl) (by kernel_rfl), hf]
  have pa : ∀ (xs : Array Value) (i : Nat) (z : Value) (h : xs[i]? = some z) (w : World), (part 3 xs i).run Tryd.prog w = .ok z w := fun xs i z h w => by
    have ha : (isAgg 3).run Tryd.prog w = .ok false w := Tryd.isAgg3 w
    unfold part
    simp only [Sem.run_bind, ha, Result.andThen_ok, Bool.false_eq_true, if_false, h, Sem.run_pure]
  show (Op.eqFields (d + 1) _ _ [_, _]).run Tryd.prog w = _
  unfold Op.eqFields
  simp only [show ("Num" : String) ≠ "_" by decide, if_true, ne_eq, not_false_eq_true, Sem.run_bind, pa #[.int .i64 x, .int .i64 y] 0 (.int .i64 x) rfl, pa #[.int .i64 a, .int .i64 b] 0 (.int .i64 a) rfl, Result.andThen_ok, run_equalIn_int w d 3 .i64 .i64 _ _ Tryd.underlying3]
  by_cases h : x = a
  · have e : (x == a) = true := by simp [h]
    simp only [e, Bool.not_true, Bool.false_eq_true, if_false, Bool.true_and]
    unfold Op.eqFields
    simp only [show ("Den" : String) ≠ "_" by decide, if_true, ne_eq, not_false_eq_true, Sem.run_bind, pa #[.int .i64 x, .int .i64 y] 1 (.int .i64 y) rfl, pa #[.int .i64 a, .int .i64 b] 1 (.int .i64 b) rfl, Result.andThen_ok, run_equalIn_int w d 3 .i64 .i64 _ _ Tryd.underlying3]
    by_cases h2 : y = b
    · have e2 : (y == b) = true := by simp [h2]
      simp only [e2, Bool.not_true, Bool.false_eq_true, if_false, Op.eqFields, Sem.run_pure]
    · have e2 : (y == b) = false := by simp [h2]
      simp only [e2, Bool.not_false, if_true, Sem.run_pure]
  · have e : (x == a) = false := by simp [h]
    simp only [e, Bool.not_false, if_true, Bool.false_and, Sem.run_pure]
def nameB' (s : ByteArray) : Bool := Wn.nameB s.data.toList
theorem name_any' (s : ByteArray) (w : World) (hs : s.size ≤ maxLen) : Calls Tryd.prog 126 #[.string s] w fun e w' => e = .returned (.bool (nameB' s)) ∧ w = w' := Wn.name_any s w hs
def GtRel (w : World) (L : List Value) (P : List (Int × Int)) (iv : Value) (wr : World) : Prop :=
  ∃ i : Nat, i ≤ 12 ∧ iv = .int .i64 (i : Int) ∧ (∀ p ∈ P.take i, (Nat.gcd p.1.natAbs p.2.natAbs == 1) = true) ∧ RowV wr w.heap.size 38 L ∧ Below w.heap.size w wr
def gOk (p : Int × Int) : Bool := Nat.gcd p.1.natAbs p.2.natAbs == 1
def woP (T : Tm) : Int × Int := T.ps.getD T.wo.toNat (0, 0)
def zB (p : Int × Int) : Bool := p.1 == 0 && p.2 == 1
def formedT (T : Tm) : Bool := T.ps.all gOk && (nameB' T.nm && zB (woP T))
set_option maxRecDepth 100000 in
set_option maxHeartbeats 1000000 in
theorem formed_any (T : Tm) (w : World) (hl : T.ps.length = 12) (hs : T.nm.size ≤ maxLen) (hf : fitsT T = true) : Calls Tryd.prog 91 #[.agg (tmV T).toArray] w fun e w' => e = .returned (.bool (formedT T)) ∧ Below w.heap.size w w' := by
  have hr := RowV.of_alloc w 38 (tmV T)
  have hc : (w.alloc (.cells (tmV T).toArray 38)).rangeAt w.heap.size 3 (fl2 T.ps) := hr.range fun j v hv => by rw [Nat.add_comm]; exact hv
  obtain ⟨hps, hw1, hw2⟩ : T.ps.all pOk = true ∧ 0 ≤ T.wo ∧ T.wo < 12 := by
    unfold fitsT at hf
    simpa only [Bool.and_eq_true, decide_eq_true_eq] using hf
  obtain ⟨wn, hwn⟩ : ∃ wn : Nat, T.wo = (wn : Int) := ⟨T.wo.toNat, by omega⟩
  obtain ⟨⟨wx, wy⟩, hwp⟩ : ∃ p, T.ps[wn]? = some p := ⟨T.ps[wn]'(by omega), List.getElem?_eq_getElem _⟩
  have hwP : woP T = (wx, wy) := by unfold woP; rw [hwn, Int.toNat_natCast, List.getD_eq_getElem?_getD, hwp]; rfl
  have hfd : formedT T = (T.ps.all gOk && (nameB' T.nm && zB (woP T))) := rfl
  rw [hwP] at hfd
  have hwo : ∀ W, RowV W w.heap.size 38 (tmV T) → W.cell? ⟨w.heap.size, 0, none⟩ = some (.string T.nm) ∧ W.cell? ⟨w.heap.size, 2, none⟩ = some (.int .i64 (wn : Int)) ∧ W.cell? ⟨w.heap.size, 3 + wn * 2, none⟩ = some (.int .i64 wx) ∧ W.cell? ⟨w.heap.size, 3 + wn * 2 + 1, none⟩ = some (.int .i64 wy) := fun W h => by
    obtain ⟨f1, f2⟩ := fl2_at hwp
    refine ⟨h.cell (i := 0) rfl, h.cell (i := 2) (by rw [← hwn]; rfl), h.cell ?_, h.cell ?_⟩
    · rw [Nat.add_comm, Nat.mul_comm]; exact f1
    · rw [show 3 + wn * 2 + 1 = 2 * wn + 1 + 3 by omega]; exact f2
  have HF := Lib.hid hfd
  have HWO := Lib.hid hwo
  have HR := Lib.hid hr
  have HC := Lib.hid hc
  have HI := Lib.hid (sz2 hl)
  have HX := Lib.hid (fun i p (h : T.ps[i]? = some p) W => idx2 hl h W)
  have HPS := Lib.hid hps
  have HNM := Lib.hid (fun W => name_any' T.nm W hs)
  have HL := Lib.hid hl
  have hw3 : wn < 12 := by omega
  clear hr hc hwo hfd hwP hps hl hwn hw1 hw2 hwp hf
  generalize formedT T = FT at *
  generalize nameB' T.nm = NB at *
  generalize tmV T = L at *
  generalize T.ps = P at *
  generalize T.nm = nm at *
  go_enter Tryd.func91, Tryd.ntmps91
  go_wp2_with (refine wpList_load_mid rfl 36 _ rfl w.heap.size 3 rfl (fl2 P) _ HC.out Tryd.underlying36 rfl HI.out ?_)
  go_loopw [7] (fun iv wr => GtRel w L P iv wr) (fun iv _ => 12 - (intOf iv).toNat)
  case atStart => exact ⟨0, Nat.zero_le _, rfl, (by simp), HR.out, belB w _⟩
  case round =>
    clear HR HC
    obtain ⟨i, hi, rfl, hok, hrow, hb⟩ := hrel
    have HOK := Lib.hid hok
    have HROW := Lib.hid hrow
    have HB := Lib.hid hb
    clear hok hrow hb
    by_cases hil : i < 12
    · obtain ⟨⟨n, d⟩, hn⟩ : ∃ p, P[i]? = some p := ⟨P[i]'(by have := HL.out; omega), List.getElem?_eq_getElem _⟩
      have hix := fun W => HX.out i (n, d) hn W
      have hilI : (i : Int) < 12 := by omega
      have hp := pOk_iff.1 (List.all_eq_true.1 HPS.out (n, d) (List.mem_of_getElem? hn))
      have HN := Lib.hid hn
      clear hn
      simp only at hix hp
      obtain ⟨⟨h1, h2⟩, h3, h4⟩ := hp
      obtain ⟨g, hg⟩ : ∃ g, g = Nat.gcd n.natAbs d.natAbs := ⟨_, rfl⟩
      have hcd := fun W => cdiv_any n d 100 W (by omega) (by omega) (by omega) (by omega) (by omega)
      rw [← hg] at hcd
      have HCD := Lib.hid hcd
      have HG := Lib.hid hg
      clear hcd hg
      go_wp2_with fail
      refine (HCD.out _).mono ?_
      rintro e w2 ⟨he, ⟨nd, rfl⟩⟩
      subst he
      by_cases hg1 : g = 1
      · have hp : gOk (n, d) = true := by unfold gOk; simp only; rw [← HG.out, hg1]; rfl
        have HP := Lib.hid hp
        clear hp
        subst hg1
        go_wp2
        refine ⟨⟨i + 1, by omega, by go_num, all_take HOK.out HN.out HP.out, ?_, ?_⟩, by simp [intOf]; omega⟩
        · exact (HROW.out.alloc _).up (below_drewN _ _)
        · exact (HB.out.alloc HB.out.size _).trans ((below_drewN _ _).mono (by simp; have := HB.out.size; omega))
      · have hp : gOk (n, d) = false := by unfold gOk; simp only; rw [← HG.out]; simp [hg1]
        have HP := Lib.hid hp
        have q1 : ((g : Int) != 1) = true := by simp; omega
        clear hp hg1
        go_wp2
        go_ret
        refine ⟨?_, ?_⟩
        · rw [HF.out, all_no HN.out HP.out]
          rfl
        · exact (HB.out.alloc HB.out.size _).trans ((below_drewN _ _).mono (by simp; have := HB.out.size; omega))
    · obtain rfl : i = 12 := by omega
      obtain ⟨c0, c2, c3, c4⟩ := HWO.out _ HROW.out
      have ha : P.all gOk = true := List.all_eq_true.2 fun y hy => HOK.out y (by rw [List.take_of_length_le (by have := HL.out; omega)]; exact hy)
      have HA := Lib.hid ha
      clear ha
      go_wp2_with fail
      refine (HNM.out _).mono ?_
      rintro e w2 ⟨he, hw⟩
      subst he
      subst hw
      cases NB
      case' false =>
        go_wp2
        go_ret
        refine ⟨?_, HB.out⟩
        rw [HF.out, HA.out]
        rfl
      case' true =>
        by_cases hx : wx = 0
        · subst hx
          by_cases hy : wy = 1
          · subst hy
            go_wp2
            go_ret
            refine ⟨?_, HB.out⟩
            rw [HF.out, HA.out]
            rfl
          · have q1 : (wy == 1) = false := beq_false_of_ne hy
            have HQ := Lib.hid q1
            clear hy
            go_wp2
            go_ret
            refine ⟨?_, HB.out⟩
            rw [HF.out, HA.out]
            unfold zB
            simp only [HQ.out]
            rfl
        · have q1 : (wx == 0) = false := beq_false_of_ne hx
          have HQ := Lib.hid q1
          clear hx
          go_wp2
          go_ret
          refine ⟨?_, HB.out⟩
          rw [HF.out, HA.out]
          unfold zB
          simp only [HQ.out]
          rfl
def lcL (ps : List (Int × Int)) : Nat := ps.foldl (fun m p => Nat.lcm m p.2.natAbs) 1
def agreeT (T : Tm) : Bool := decide (lcL T.ps ≤ 120)
theorem lc_mono : ∀ (ps : List (Int × Int)) (m : Nat), m ∣ ps.foldl (fun m p => Nat.lcm m p.2.natAbs) m
  | [], m => Nat.dvd_refl m
  | p :: r, m => Nat.dvd_trans (Nat.dvd_lcm_left m p.2.natAbs) (lc_mono r (Nat.lcm m p.2.natAbs))
theorem lc_pos : ∀ (ps : List (Int × Int)) (m : Nat), 0 < m → (∀ p ∈ ps, 1 ≤ p.2) → 0 < ps.foldl (fun m p => Nat.lcm m p.2.natAbs) m
  | [], _, hm, _ => hm
  | p :: r, m, hm, h => lc_pos r _ (Nat.lcm_pos hm (by have := h p (by simp); omega)) fun x hx => h x (by simp [hx])
theorem lc_take (ps : List (Int × Int)) (i : Nat) : lcL (ps.take i) ∣ lcL ps := by
  have h := lc_mono (ps.drop i) (lcL (ps.take i))
  have e : (ps.drop i).foldl (fun m p => Nat.lcm m p.2.natAbs) (lcL (ps.take i)) = lcL ps := by
    unfold lcL; rw [← List.foldl_append, List.take_append_drop]
  rw [e] at h
  exact h
theorem lc_step {ps : List (Int × Int)} {i : Nat} {p : Int × Int} (h : ps[i]? = some p) : lcL (ps.take (i + 1)) = Nat.lcm (lcL (ps.take i)) p.2.natAbs := by
  unfold lcL; rw [List.take_add_one, h, List.foldl_append]; rfl
end Go.Proofs.YtkoghdgfllichaaDoor.Tp
namespace Go.Proofs.YtkoghdgfllichaaDoor.Tp
open Go.RowKit

def AgRel (w : World) (P : List (Int × Int)) (mv iv : Value) (wr : World) : Prop :=
  ∃ i m : Nat, i ≤ 12 ∧ iv = .int .i64 (i : Int) ∧ mv = .int .i64 (m : Int) ∧ lcL (P.take i) = m ∧ 1 ≤ m ∧ m ≤ 120 ∧ Below w.heap.size w wr
theorem lcm_quo {m d g : Nat} (hg : g = Nat.gcd m d) : m * (d / g) = Nat.lcm m d := by
  subst hg
  rw [Nat.lcm, Nat.mul_div_assoc _ (Nat.gcd_dvd_right m d)]
set_option maxRecDepth 100000 in
set_option maxHeartbeats 1000000 in
theorem agree_any (P : List (Int × Int)) (w : World) (hl : P.length = 12) (hp : P.all pOk = true) : Calls Tryd.prog 92 #[.agg (fl2 P).toArray] w fun e w' => e = .returned (.bool (decide (lcL P ≤ 120))) ∧ Below w.heap.size w w' := by
  have hr := RowV.of_alloc w 36 (fl2 P)
  have hc : (w.alloc (.cells (fl2 P).toArray 36)).rangeAt w.heap.size 0 (fl2 P) := hr.range fun j v hv => by rw [Nat.zero_add]; exact hv
  have HC := Lib.hid hc
  have HI := Lib.hid (sz2 hl)
  have HX := Lib.hid (fun i p (h : P[i]? = some p) W => idx2 hl h W)
  have HPS := Lib.hid hp
  have HL := Lib.hid hl
  clear hr hc hp hl
  go_enter Tryd.func92, Tryd.ntmps92
  go_wp2_with (refine wpList_load_mid rfl 36 _ rfl w.heap.size 0 rfl (fl2 P) _ HC.out Tryd.underlying36 rfl HI.out ?_)
  go_loopw [3, 7] (fun mv iv wr => AgRel w P mv iv wr) (fun _ iv _ => 12 - (intOf iv).toNat)
  case atStart => exact ⟨0, 1, Nat.zero_le _, rfl, rfl, rfl, Nat.le_refl 1, by omega, belB w _⟩
  case round =>
    clear HC
    obtain ⟨i, m, hi, rfl, rfl, hlc, hm1, hm2, hb⟩ := hrel
    have HLC := Lib.hid hlc
    have HB := Lib.hid hb
    clear hlc hb
    by_cases hil : i < 12
    · obtain ⟨⟨n, d0⟩, hn⟩ : ∃ p, P[i]? = some p := ⟨P[i]'(by have := HL.out; omega), List.getElem?_eq_getElem _⟩
      have hp := pOk_iff.1 (List.all_eq_true.1 HPS.out (n, d0) (List.mem_of_getElem? hn))
      simp only at hp
      obtain ⟨d, rfl⟩ : ∃ d : Nat, d0 = (d : Int) := ⟨d0.toNat, by omega⟩
      have hix := fun W => HX.out i (n, (d : Int)) hn W
      have hilI : (i : Int) < 12 := by omega
      have hst := lc_step hn
      have HN := Lib.hid hn
      clear hn
      simp only at hix hst
      rw [HLC.out, Int.natAbs_natCast] at hst
      obtain ⟨⟨h1, h2⟩, h3, h4⟩ := hp
      obtain ⟨g, hg⟩ : ∃ g, g = Nat.gcd m d := ⟨_, rfl⟩
      have hgp : 0 < g := by rw [hg]; exact Nat.gcd_pos_of_pos_left _ (by omega)
      have hlq := lcm_quo hg
      obtain ⟨k, hk⟩ : ∃ k, k = d / g := ⟨_, rfl⟩
      rw [← hk, ← hst] at hlq
      obtain ⟨m2, hm⟩ : ∃ m2, m2 = lcL (P.take (i + 1)) := ⟨_, rfl⟩
      rw [← hm] at hlq
      have hkd : k ≤ d := by rw [hk]; exact Nat.div_le_self _ _
      have hmk : m * k ≤ 120 * 24 := Nat.mul_le_mul hm2 (by omega)
      have hm21 : 1 ≤ m2 := by
        rw [hm, hst]; exact Nat.lcm_pos hm1 (by omega)
      have hcd := fun W => cdiv_any (m : Int) (d : Int) 120 W (by omega) (by omega) (by omega) (by omega) (by omega)
      rw [Int.natAbs_natCast, Int.natAbs_natCast, ← hg] at hcd
      have hq : (d : Int).tdiv (g : Int) = (k : Int) := by rw [hk]; rfl
      have hq2 : (d : Int) / (g : Int) = (k : Int) := by rw [hk]; exact (Int.natCast_ediv d g).symm
      have hmI : (m : Int) * (k : Int) = (m2 : Int) := by rw [← hlq]; exact (Int.natCast_mul m k).symm
      have hm2b : (m2 : Int) ≤ 2880 := by rw [← hmI]; have := hmk; omega
      have hg0 : ¬ (g : Int) = 0 := by omega
      have HCD := Lib.hid hcd
      have HM := Lib.hid hm
      clear hcd hm hst hk hg hlq hmk
      go_wp2
      go_quiet ((go_at_call 125; exact Calls.quiet_of (HCD.out _)))
      by_cases hle : m2 ≤ 120
      · go_wp2
        refine ⟨⟨i + 1, m2, by omega, by go_num, rfl, HM.out.symm, by omega, hle, ?_⟩, by simp [intOf]; omega⟩
        exact (HB.out.alloc HB.out.size _).trans ((below_drewN _ _).mono (by simp; have := HB.out.size; omega))
      · go_wp2
        go_ret
        refine ⟨?_, (HB.out.alloc HB.out.size _).trans ((below_drewN _ _).mono (by simp; have := HB.out.size; omega))⟩
        have hno : ¬ lcL P ≤ 120 := by
          intro h
          have h1 := Nat.le_of_dvd (Nat.lt_of_lt_of_le Nat.zero_lt_one (lc_pos P 1 (by omega) fun p hp => (pOk_iff.1 (List.all_eq_true.1 HPS.out p hp)).1.1)) (lc_take P (i + 1))
          have h2 : P.foldl (fun m p => Nat.lcm m p.2.natAbs) 1 = lcL P := rfl
          have := HM.out
          omega
        rw [decide_eq_false hno]
        rfl
    · obtain rfl : i = 12 := by omega
      have hm : lcL P = m := by rw [← HLC.out, List.take_of_length_le (by have := HL.out; omega)]
      have HM := Lib.hid hm
      clear hm
      go_wp2
      go_ret
      refine ⟨?_, HB.out⟩
      rw [HM.out, decide_eq_true hm2]
      rfl
def chkT (T : Tm) : Int := if fitsT T = true then (if formedT T = true then (if agreeT T = true then 0 else 7) else 6) else 2
theorem RowV.all {w : World} {g : Nat} {t : TypeId} {L : List Value} (h : RowV w g t L) : w.rangeAt g 0 L := h.range fun j v hv => by rw [Nat.zero_add]; exact hv
theorem RowV.parts {w : World} {g : Nat} {t : TypeId} {T : Tm} (h : RowV w g t (tmV T)) : w.rangeAt g 3 (fl2 T.ps) := h.range fun j v hv => by rw [Nat.add_comm]; exact hv
set_option maxRecDepth 100000 in
set_option maxHeartbeats 1000000 in
theorem Check_any (T : Tm) (w : World) (hl : T.ps.length = 12) (hs : T.nm.size ≤ maxLen) : Calls Tryd.prog 50 #[.agg (tmV T).toArray] w fun e w' => e = .returned (.int .i64 (chkT T)) ∧ Below w.heap.size w w' := by
  have HR := Lib.hid (RowV.of_alloc w 38 (tmV T))
  have HI := Lib.hid (sz2 hl)
  have HI2 := Lib.hid (szT hl)
  have HP := Lib.hid (fun W (h : RowV W w.heap.size 38 (tmV T)) => h.parts)
  have HFT := Lib.hid (fun W => fits_any T W hl)
  have HFO := Lib.hid (fun W (h : fitsT T = true) => formed_any T W hl hs h)
  have HAG := Lib.hid (fun W (h : fitsT T = true) => agree_any T.ps W hl (by unfold fitsT at h; simp only [Bool.and_eq_true] at h; exact h.1))
  have hck : chkT T = if fitsT T = true then (if formedT T = true then (if decide (lcL T.ps ≤ 120) = true then 0 else 7) else 6) else 2 := rfl
  have HCK := Lib.hid hck
  clear hck hl hs
  generalize chkT T = CK at *
  generalize fitsT T = FT at *
  generalize formedT T = FO at *
  generalize decide (lcL T.ps ≤ 120) = AG at *
  generalize tmV T = L at *
  generalize T.ps = P at *
  go_enter Tryd.func50, Tryd.ntmps50
  go_wp2_with (refine wpList_load_mid rfl 38 _ rfl w.heap.size 0 rfl L _ HR.out.all Tryd.underlying38 rfl HI2.out ?_)
  refine (HFT.out _).mono ?_
  rintro e w2 ⟨he, hb⟩
  subst he
  have hr := HR.out.up hb
  have hb2 := (belB w (.cells L.toArray 38)).trans (hb.mono (by simp))
  have HR := Lib.hid hr
  have HB := Lib.hid hb2
  clear hr hb2 hb
  cases FT
  case' false =>
    go_wp2
    go_ret
    exact ⟨by rw [HCK.out]; rfl, HB.out⟩
  case' true =>
    have HFO2 := Lib.hid (fun W => HFO.out W rfl)
    have HAG2 := Lib.hid (fun W => HAG.out W rfl)
    clear HFO HAG
    go_wp2_with (refine wpList_load_mid rfl 38 _ rfl w.heap.size 0 rfl L _ HR.out.all Tryd.underlying38 rfl HI2.out ?_)
    refine (HFO2.out _).mono ?_
    rintro e w3 ⟨he, hb⟩
    subst he
    have hr := HR.out.up hb
    have hb2 := HB.out.trans (hb.mono HB.out.size)
    have HR := Lib.hid hr
    have HB := Lib.hid hb2
    clear hr hb2 hb
    cases FO
    case' false =>
      go_wp2
      go_ret
      exact ⟨by rw [HCK.out]; rfl, HB.out⟩
    case' true =>
      go_wp2_with (refine wpList_load_mid rfl 36 _ rfl w.heap.size 3 rfl (fl2 P) _ (HP.out _ HR.out) Tryd.underlying36 rfl HI.out ?_)
      refine (HAG2.out _).mono ?_
      rintro e w4 ⟨he, hb⟩
      subst he
      have hb2 := HB.out.trans (hb.mono HB.out.size)
      have HB := Lib.hid hb2
      clear hb2 hb
      cases AG
      all_goals
        go_wp2
        go_ret
        exact ⟨by rw [HCK.out]; rfl, HB.out⟩
end Go.Proofs.YtkoghdgfllichaaDoor.Tp
