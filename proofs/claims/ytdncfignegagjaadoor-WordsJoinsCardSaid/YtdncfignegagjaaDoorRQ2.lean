import Derived.Test.YtdncfignegagjaaDoorRQ1
namespace Go.Proofs.YtdncfignegagjaaDoor
open Go.RowKit

theorem undbl_dbl (t : List UInt8) : undbl (dbl t) = t := by
  induction t with
  | nil => rfl
  | cons c r ih =>
    unfold dbl
    split
    · rename_i h; subst h; simp only [undbl]; simp [ih]
    · rename_i h
      cases hd : dbl r with
      | nil => rw [hd] at ih; simp only [undbl] at ih ⊢; rw [← ih]
      | cons e rest => rw [hd] at ih; rw [undbl, if_neg (fun x => h x.1), ih]
theorem dbl_inv (t : List UInt8) : ∀ (u x : List UInt8), dbl t ++ x = dbl u → ∃ v, x = dbl v := by
  induction t with
  | nil => intro u x h; exact ⟨u, h⟩
  | cons c r ih =>
    intro u x h
    cases u with
    | nil => exfalso; unfold dbl at h; split at h <;> simp at h
    | cons d u' =>
      rw [dbl, dbl] at h
      by_cases hc : c = 34
      · rw [if_pos hc] at h
        by_cases hd : d = 34
        · rw [if_pos hd] at h; simp at h; exact ih u' x h
        · rw [if_neg hd] at h; simp at h; exact absurd h.1.symm hd
      · rw [if_neg hc] at h
        by_cases hd : d = 34
        · rw [if_pos hd] at h; simp at h; exact absurd h.1 hc
        · rw [if_neg hd] at h; simp at h; exact ih u' x h.2
theorem dbl_two {c : UInt8} {r v : List UInt8} (h : 34 :: c :: r = dbl v) : c = 34 := by
  cases v with
  | nil => simp [dbl] at h
  | cons d v' =>
    rw [dbl] at h
    by_cases hd : d = 34
    · rw [if_pos hd] at h; simp at h; exact h.1
    · rw [if_neg hd] at h; simp at h; exact absurd h.1.symm hd
theorem dbl_lone {v : List UInt8} (h : [34] = dbl v) : False := by
  cases v with
  | nil => simp [dbl] at h
  | cons d v' =>
    rw [dbl] at h
    by_cases hd : d = 34
    · rw [if_pos hd] at h; simp at h
    · rw [if_neg hd] at h; simp at h; exact absurd h.1.symm hd

theorem inner_quoted (t : List UInt8) : inner (quoted t) = t := by
  unfold inner quoted
  simp [undbl_dbl]
theorem unq_ok {l t : List UInt8} (h : l = quoted t) : unquoteW l = if textB t = true then (t, 0) else ([], 6) := by
  have hlen : ¬ l.length < 2 := by rw [h]; unfold quoted; simp
  subst h
  cases ht : textB t
  · rw [unquoteW_text hlen (by rw [inner_quoted]; exact ht)]; rfl
  · rw [unquoteW_yes hlen (by rw [inner_quoted]; exact ht) (by rw [inner_quoted]), inner_quoted]; rfl
theorem unq_no {l : List UInt8} (h : ∀ t, l ≠ quoted t) : unquoteW l = ([], 6) := by
  by_cases hlen : l.length < 2
  · exact unquoteW_short hlen
  · exact unquoteW_other hlen (fun e => h _ e.symm)

/-- What lies between the first byte and the last. -/
def mid (s : ByteArray) (k : Nat) : List UInt8 := (s.data.toList.take k).drop 1
theorem mid_succ (s : ByteArray) (k : Nat) (h1 : 1 ≤ k) (h : k < s.size) : mid s (k + 1) = mid s k ++ [s[k]] := by
  unfold mid
  rw [take_succ_at s k h, List.drop_append_of_le_length (by rw [List.length_take, len_eq]; omega)]
theorem whole_mid (s : ByteArray) (h : 2 ≤ s.size) : s.data.toList = s[0] :: (mid s (s.size - 1) ++ [s[s.size - 1]]) := by
  have h1 : s.data.toList = s.data.toList.take 1 ++ s.data.toList.drop 1 := (List.take_append_drop 1 _).symm
  have h2 : s.data.toList.drop 1 = mid s s.size := by unfold mid; rw [List.take_of_length_le (by rw [len_eq]; omega)]
  have h3 := mid_succ s (s.size - 1) (by omega) (by omega)
  rw [show s.size - 1 + 1 = s.size by omega] at h3
  have h4 := take_succ_at s 0 (by omega)
  rw [h1, h2, h3, h4]; simp
theorem quoted_parts {s : ByteArray} (h : 2 ≤ s.size) {t : List UInt8} (e : s.data.toList = quoted t) : s[0] = 34 ∧ s[s.size - 1] = 34 ∧ mid s (s.size - 1) = dbl t := by
  rw [whole_mid s h] at e
  unfold quoted at e
  simp only [List.cons.injEq] at e
  obtain ⟨e1, e2⟩ := List.append_inj' e.2 rfl
  simp only [List.cons.injEq, and_true] at e2
  exact ⟨e.1, e2, e1⟩
theorem quoted_back {s : ByteArray} (h : 2 ≤ s.size) {t : List UInt8} (h0 : s[0] = 34) (h1 : s[s.size - 1] = 34) (e : mid s (s.size - 1) = dbl t) : s.data.toList = quoted t := by
  rw [whole_mid s h, h0, h1, e]; rfl
theorem mid_split (s : ByteArray) (j k : Nat) (hj : 1 ≤ j) (h : j ≤ k) (hk : k ≤ s.size) : ∃ r, mid s k = mid s j ++ r := by
  induction k with
  | zero => omega
  | succ k ih =>
    by_cases hjk : j = k + 1
    · exact ⟨[], by rw [hjk]; simp⟩
    · obtain ⟨r, hr⟩ := ih (by omega) (by omega)
      exact ⟨r ++ [s[k]], by rw [mid_succ s k (by omega) (by omega), hr]; simp⟩
theorem unq_lone {s : ByteArray} (h : 2 ≤ s.size) {k : Nat} {D : List UInt8} (h1 : 1 ≤ k) (hk : k + 1 = s.size - 1) (hD : mid s k = dbl D) (hc : s[k] = 34) : unquoteW s.data.toList = ([], 6) := by
  refine unq_no fun t e => ?_
  have h3 := (quoted_parts h e).2.2
  rw [← hk, mid_succ s k h1 (by omega), hD, hc] at h3
  obtain ⟨v, hv⟩ := dbl_inv _ _ _ h3
  exact dbl_lone hv
theorem unq_two {s : ByteArray} (h : 2 ≤ s.size) {k : Nat} {D : List UInt8} (h1 : 1 ≤ k) (hk : k + 1 < s.size - 1) (hD : mid s k = dbl D) (hc : s[k] = 34) (hd : s[k + 1] ≠ 34) : unquoteW s.data.toList = ([], 6) := by
  refine unq_no fun t e => ?_
  have h3 := (quoted_parts h e).2.2
  obtain ⟨r, hr⟩ := mid_split s (k + 2) (s.size - 1) (by omega) (by omega) (by omega)
  rw [hr, mid_succ s (k + 1) (by omega) (by omega), mid_succ s k h1 (by omega), hD, hc] at h3
  simp only [List.append_assoc] at h3
  obtain ⟨v, hv⟩ := dbl_inv _ _ _ h3
  exact hd (dbl_two hv)

set_option maxHeartbeats 1000000 in
theorem runquote_any (s : ByteArray) (w : World) (hs : s.size ≤ 1000000) :
    Calls Tryd.prog 33 #[.string s] w fun e w' => e = .returned (strV (unquoteW s.data.toList)) ∧ Below w.heap.size w w' := by
  by_cases h2 : s.size < 2
  · have hf := Lib.hid (unquoteW_short (l := s.data.toList) (by rw [len_eq]; exact h2))
    go_enter Tryd.func33, Tryd.ntmps33
    go_wp2_with fail
    go_ret2
    exact ⟨ret_strV hf.out, Below.refl _ _⟩
  have hp0 : 0 < s.size := by omega
  have hpn : s.size - 1 < s.size := by omega
  by_cases h34 : (s[0].toNat : Int) = 34
  rotate_left
  · have hf := Lib.hid (unq_no (l := s.data.toList) (fun t e => h34 (by rw [(quoted_parts (by omega) e).1]; rfl)))
    have q1 : ((s[0].toNat : Int) == 34) = false := by simp [h34]
    have q2 : ((s[0].toNat : Int) != 34) = true := by simp [h34]
    clear h34
    go_enter Tryd.func33, Tryd.ntmps33
    go_wp2_with fail
    go_ret2
    exact ⟨ret_strV hf.out, Below.refl _ _⟩
  have q1 : ((s[0].toNat : Int) == 34) = true := by simp [h34]
  have q2 : ((s[0].toNat : Int) != 34) = false := by simp [h34]
  have H34 := Lib.hid h34
  clear h34
  by_cases h35 : (s[s.size - 1].toNat : Int) = 34
  rotate_left
  · have hf := Lib.hid (unq_no (l := s.data.toList) (fun t e => h35 (by rw [(quoted_parts (by omega) e).2.1]; rfl)))
    have q3 : ((s[s.size - 1].toNat : Int) == 34) = false := by simp [h35]
    have q4 : ((s[s.size - 1].toNat : Int) != 34) = true := by simp [h35]
    clear h35
    go_enter Tryd.func33, Tryd.ntmps33
    go_wp2_with fail
    go_ret2
    exact ⟨ret_strV hf.out, Below.refl _ _⟩
  have q3 : ((s[s.size - 1].toNat : Int) == 34) = true := by simp [h35]
  have q4 : ((s[s.size - 1].toNat : Int) != 34) = false := by simp [h35]
  have H35 := Lib.hid h35
  have h2' : 2 ≤ s.size := by omega
  clear h35 h2
  go_enter Tryd.func33, Tryd.ntmps33
  go_wp2_with fail
  go_loopw [4, 5] (fun o i wr => ∃ (k : Nat) (D : ByteArray), 1 ≤ k ∧ k ≤ s.size - 1 ∧ i = .int .i64 k ∧ o = .string D ∧ mid s k = dbl D.data.toList ∧ D.size ≤ k ∧ Below w.heap.size w wr) (fun _ i _ => s.size - (intOf i).toNat)
  case atStart => exact ⟨1, ⟨#[]⟩, Nat.le_refl _, by omega, rfl, rfl, by unfold mid; rw [List.drop_take]; rfl, Nat.zero_le _, Below.refl _ _⟩
  case round =>
    obtain ⟨k, D, hk1, hk, rfl, rfl, hD, hDs, hb⟩ := hrel
    have HD := Lib.hid hD
    clear hD
    by_cases hlt : k < s.size - 1
    · have hks : k < s.size := by omega
      have hki : (k : Int) < (s.size : Int) - 1 := by omega
      have he := Lib.hid (ext_one s k hks)
      have hes : Hid ((s.extract k (k + 1)).size = 1) := Lib.hid (by rw [← len_eq, ext_one s k hks]; rfl)
      have hst := Lib.hid (mid_succ s k hk1 hks)
      by_cases hc : (s[k].toNat : Int) = 34
      · have c1 : ((s[k].toNat : Int) == 34) = true := by simp [hc]
        have c2 : ((s[k].toNat : Int) != 34) = false := by simp [hc]
        have HC := Lib.hid hc
        clear hc
        by_cases hlast : k + 1 = s.size - 1
        · have c3 : (((k : Int) + 1) == (s.size : Int) - 1) = true := beq_iff_eq.2 (by omega)
          have hf := Lib.hid (unq_lone h2' hk1 hlast HD.out (u8_34 HC.out))
          clear hlast
          go_wp2
          go_ret2
          exact ⟨ret_strV hf.out, hb⟩
        · have c3 : (((k : Int) + 1) == (s.size : Int) - 1) = false := beq_false_of_ne (by omega)
          have hk2 : k + 1 < s.size := by omega
          have hl2 : k + 1 < s.size - 1 := by omega
          clear hlast
          by_cases hd : (s[k + 1].toNat : Int) = 34
          · have c4 : ((s[k + 1].toNat : Int) == 34) = true := by simp [hd]
            have c5 : ((s[k + 1].toNat : Int) != 34) = false := by simp [hd]
            have HE := Lib.hid hd
            have hst2 := Lib.hid (mid_succ s (k + 1) (by omega) hk2)
            clear hd
            go_wp2
            go_roundw
            case rel =>
              refine ⟨k + 2, _, by omega, by omega, by go_num, rfl, ?_, by simp only [ByteArray.size_append, hes.out]; omega, hb⟩
              rw [hst2.out, hst.out, bapp, he.out, dbl_append, HD.out, u8_34 HC.out, u8_34 HE.out]; simp [dbl]
            case measure => simp [intOf]; omega
          · have c4 : ((s[k + 1].toNat : Int) == 34) = false := by simp [hd]
            have c5 : ((s[k + 1].toNat : Int) != 34) = true := by simp [hd]
            have hf := Lib.hid (unq_two h2' hk1 hl2 HD.out (u8_34 HC.out) (u8_n34 hd))
            clear hd
            go_wp2
            go_ret2
            exact ⟨ret_strV hf.out, hb⟩
      · have c1 : ((s[k].toNat : Int) == 34) = false := by simp [hc]
        have c2 : ((s[k].toNat : Int) != 34) = true := by simp [hc]
        have HC := Lib.hid hc
        clear hc
        go_wp2
        go_roundw
        case rel =>
          refine ⟨k + 1, _, by omega, by omega, by go_num, rfl, ?_, by simp only [ByteArray.size_append, hes.out]; omega, hb⟩
          rw [hst.out, bapp, he.out, dbl_append, HD.out]; simp [dbl, u8_n34 HC.out]
        case measure => simp [intOf]; omega
    · have hki : ¬ (k : Int) < (s.size : Int) - 1 := by omega
      obtain rfl : k = s.size - 1 := by omega
      have hf0 := Lib.hid (unq_ok (quoted_back h2' (u8_34 H34.out) (u8_34 H35.out) HD.out))
      have hDm : D.size ≤ maxLen := by unfold maxLen; omega
      cases ht : textB D.data.toList
      · have hf := Lib.hid (show unquoteW s.data.toList = ([], 6) by rw [hf0.out, ht]; rfl)
        have HT := Lib.hid ht
        clear ht
        go_wp2_with fail
        refine (rtext_any D _ hDm).mono ?_
        rintro e w' ⟨rfl, rfl⟩
        rw [HT.out]
        go_wp2_with fail
        go_ret2
        exact ⟨ret_strV hf.out, hb⟩
      · have hf := Lib.hid (show unquoteW s.data.toList = (D.data.toList, 0) by rw [hf0.out, ht]; rfl)
        have HT := Lib.hid ht
        clear ht
        go_wp2_with fail
        refine (rtext_any D _ hDm).mono ?_
        rintro e w' ⟨rfl, rfl⟩
        rw [HT.out]
        go_wp2_with fail
        go_ret2
        exact ⟨ret_strV2 hf.out, hb⟩
end Go.Proofs.YtdncfignegagjaaDoor
