import Derived.Test.YtdncfignegagjaaDoorR9
namespace Go.Proofs.YtdncfignegagjaaDoor
open Go.RowKit

theorem dbl_append (a b : List UInt8) : dbl (a ++ b) = dbl a ++ dbl b := by
  induction a with
  | nil => rfl
  | cons c r ih => rw [List.cons_append]; simp only [dbl, ih]; split <;> simp
theorem take_succ_at (s : ByteArray) (k : Nat) (h : k < s.size) : s.data.toList.take (k + 1) = s.data.toList.take k ++ [s[k]] := by
  have hk : k < s.data.toList.length := by simpa using h
  rw [List.take_succ_eq_append_getElem hk]
  have e : s.data.toList[k] = s[k] := by simp [ByteArray.getElem_eq_getElem_data]
  rw [e]
theorem dbl_hit (s : ByteArray) (k : Nat) (h : k < s.size) (hc : s[k] = 34) : dbl (s.data.toList.take (k + 1)) = dbl (s.data.toList.take k) ++ [s[k]] ++ [34] := by
  rw [take_succ_at s k h, dbl_append, hc]; simp [dbl]
theorem dbl_miss (s : ByteArray) (k : Nat) (h : k < s.size) (hc : s[k] ≠ 34) : dbl (s.data.toList.take (k + 1)) = dbl (s.data.toList.take k) ++ [s[k]] := by
  rw [take_succ_at s k h, dbl_append]; simp [dbl, hc]
theorem ext_one (s : ByteArray) (k : Nat) (h : k < s.size) : (s.extract k (k + 1)).data.toList = [s[k]] := by
  have hk : k < s.data.toList.length := by simpa using h
  have e : s.data.toList[k] = s[k] := by simp [ByteArray.getElem_eq_getElem_data]
  rw [Lib.extract_data]
  rw [List.drop_eq_getElem_cons hk, e]
  simp
set_option maxHeartbeats 1000000 in
theorem rquote_any (s : ByteArray) (w : World) (hs : s.size ≤ maxLen) :
    Calls Tryd.prog 31 #[.string s] w fun e w' => e = .returned (strV (quoteW s.data.toList)) ∧ Below w.heap.size w w' := by
  cases h : textB s.data.toList
  · have hf := Lib.hid (quoteW_no h)
    have H := Lib.hid h
    clear h
    go_enter Tryd.func31, Tryd.ntmps31
    go_wp2_with fail
    refine (rtext_any s _ hs).mono ?_
    rintro e w' ⟨rfl, rfl⟩
    rw [H.out]
    go_wp2_with fail
    go_ret2
    exact ⟨ret_strV hf.out, Below.refl _ _⟩
  · have hf := Lib.hid (quoteW_yes h)
    have hl := textB_len h
    rw [len_eq] at hl
    have H := Lib.hid h
    clear h
    go_enter Tryd.func31, Tryd.ntmps31
    go_wp2_with fail
    refine (rtext_any s _ hs).mono ?_
    rintro e w' ⟨rfl, rfl⟩
    rw [H.out]
    go_wp2_with fail
    go_loopw [4, 5] (fun o i wr => ∃ (k : Nat) (D : ByteArray), k ≤ s.size ∧ i = .int .i64 k ∧ o = .string D ∧ D.data.toList = 34 :: dbl (s.data.toList.take k) ∧ D.size ≤ 2 * k + 1 ∧ Below w.heap.size w wr) (fun _ i _ => s.size - (intOf i).toNat)
    case atStart => exact ⟨0, ⟨#[34]⟩, Nat.zero_le _, rfl, rfl, rfl, Nat.le_refl _, Below.refl _ _⟩
    case round =>
      obtain ⟨k, D, hk, rfl, rfl, hD, hDs, hb⟩ := hrel
      have HD := Lib.hid hD
      clear hD
      by_cases hlt : k < s.size
      · have he := Lib.hid (ext_one s k hlt)
        have hes : Hid ((s.extract k (k + 1)).size = 1) := Lib.hid (by rw [← len_eq, ext_one s k hlt]; rfl)
        have hq : Hid ((⟨#[34]⟩ : ByteArray).size = 1) := Lib.hid rfl
        by_cases h34 : (s[k].toNat : Int) = 34
        · have hstep := Lib.hid (dbl_hit s k hlt (u8_34 h34))
          have q1 : ((s[k].toNat : Int) == 34) = true := by simp [h34]
          clear h34
          go_wp2
          go_roundw
          case rel =>
            exact ⟨k + 1, _, by omega, by go_num, rfl, by rw [hstep.out, bapp, bapp, he.out, HD.out]; simp, by simp only [ByteArray.size_append, hes.out, hq.out]; omega, by first | exact hb | exact hb.trans ((below_drewN _ _).mono hb.size)⟩
          case measure => simp [intOf]; omega
        · have hstep := Lib.hid (dbl_miss s k hlt (u8_n34 h34))
          have q1 : ((s[k].toNat : Int) == 34) = false := by simp [h34]
          clear h34
          go_wp2
          go_roundw
          case rel =>
            exact ⟨k + 1, _, by omega, by go_num, rfl, by rw [hstep.out, bapp, he.out, HD.out]; simp, by simp only [ByteArray.size_append, hes.out]; omega, by first | exact hb | exact hb.trans ((below_drewN _ _).mono hb.size)⟩
          case measure => simp [intOf]; omega
      · have hall := HD.out
        rw [List.take_of_length_le (by simp; omega)] at hall
        have Hall := Lib.hid hall
        clear hall
        go_wp2
        go_ret2
        exact ⟨ret_strV2 (by rw [hf.out, bapp, Hall.out]; rfl), hb⟩
end Go.Proofs.YtdncfignegagjaaDoor
