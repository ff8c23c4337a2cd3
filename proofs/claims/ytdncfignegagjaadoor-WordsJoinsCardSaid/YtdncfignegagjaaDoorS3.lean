import Derived.Test.YtdncfignegagjaaDoorS2
namespace Go.Proofs.YtdncfignegagjaaDoor
open Go.RowKit

def RjRel (w : World) (xs : List Fld) (sv i : Value) (wr : World) : Prop :=
  ∃ (k : Nat) (D : ByteArray), k ≤ xs.length ∧ i = .int .i64 k ∧ sv = .string D ∧ D.data.toList = joinL (xs.take k) ∧ D.size ≤ 501 * k ∧ (∀ x ∈ xs.take k, rightB x = true) ∧ Below w.heap.size w wr

set_option maxRecDepth 100000 in
set_option maxHeartbeats 4000000 in
theorem rjoin_any (v : Value) (xs : List Fld) (w : World) (hx : SlF w w.heap.size v xs) (hlen : xs.length ≤ 1000000) (hstr : ∀ x ∈ xs, x.2.length ≤ maxLen) :
    Calls Tryd.prog 39 #[v] w fun e w' => e = .returned (strV (joinW xs)) ∧ Below w.heap.size w w' := by
  obtain ⟨A, cap, rfl, hc⟩ := hx
  have HC := Lib.hid hc
  have HS := Lib.hid hstr
  clear hc hstr
  by_cases h64 : 64 < xs.length
  · have hf := Lib.hid (show joinW xs = ([], 3) by rw [joinW, if_pos h64])
    go_enter Tryd.func39, Tryd.ntmps39
    go_wp2
    go_ret2
    exact ⟨ret_strV hf.out, Below.refl _ _⟩
  have hjw := Lib.hid (show joinW xs = if xs.any (fun x => !rightB x) then ([], 2) else if 4096 < (joinL xs).length then ([], 3) else (joinL xs, 0) by rw [joinW, if_neg h64])
  have q1 : decide (64 < xs.length) = false := by simp; omega
  go_enter Tryd.func39, Tryd.ntmps39
  go_wp2
  go_loopw [4, 5] (fun sv i wr => RjRel w xs sv i wr) (fun _ i _ => xs.length - (intOf i).toNat)
  case atStart => exact ⟨0, ⟨#[]⟩, Nat.zero_le _, rfl, rfl, rfl, Nat.zero_le _, by simp, Below.refl _ _⟩
  case round =>
    obtain ⟨k, D, hk, rfl, rfl, hD, hDs, hgood, hb⟩ := hrel
    have HGood := Lib.hid hgood
    have HD := Lib.hid hD
    clear hgood hD
    by_cases hlt : k < xs.length
    · obtain ⟨x, hx⟩ : ∃ x, xs[k]? = some x := ⟨xs[k], List.getElem?_eq_getElem hlt⟩
      obtain ⟨g, o, rfl, hg, hcell⟩ := HC.out (by intro e; rw [e] at hlt; simp at hlt)
      obtain ⟨c0, c1⟩ := hcell k x hx
      have HX := Lib.hid hx
      obtain ⟨q, sl⟩ := x
      obtain ⟨s, rfl⟩ : ∃ s : ByteArray, sl = s.data.toList := ⟨⟨sl.toArray⟩, rfl⟩
      have hxl : s.size ≤ maxLen := by have := HS.out _ (List.mem_of_getElem? HX.out); simpa using this
      have HC0 := Lib.hid (show w.cell? ⟨g, o + k * 2, none⟩ = some (.bool q) from c0)
      have HC1 := Lib.hid (show w.cell? ⟨g, o + k * 2 + 1, none⟩ = some (.string s) from c1)
      have c0 := (hb.cell (p := ⟨g, o + k * 2, none⟩) hg).trans HC0.out
      have c1 := (hb.cell (p := ⟨g, o + k * 2 + 1, none⟩) hg).trans HC1.out
      have hbs := hb.size
      have htk := take_snoc' xs k _ HX.out
      have hrr := rright_any q s wr hxl
      by_cases hr : rightB (q, s.data.toList) = true
      · have hwl := write_le hr
        have hsn := joinL_snoc (xs.take k) (q, s.data.toList)
        rw [← htk] at hsn
        have hgood' : ∀ y ∈ xs.take (k + 1), rightB y = true := by
          rw [htk]; intro y hy
          rcases List.mem_append.1 hy with h | h
          · exact HGood.out y h
          · rw [List.mem_singleton.1 h]; exact hr
        rw [hr] at hrr
        have HG' := Lib.hid hgood'
        have HSN := Lib.hid hsn
        have HRR := Lib.hid hrr
        have hne : xs.take k = [] ↔ k = 0 := by
          constructor
          · intro e
            have := congrArg List.length e
            rw [List.length_take, Nat.min_eq_left hk] at this
            exact this
          · rintro rfl; rfl
        have HN := Lib.hid hne
        have hD1 : (D ++ (⟨#[32]⟩ : ByteArray)).data.toList = D.data.toList ++ [32] := bapp _ _
        have hD2 : (D ++ (⟨#[32]⟩ : ByteArray)).size = D.size + 1 := by rw [← len_eq, hD1]; simp
        have HD1 := Lib.hid hD1
        have HD2 := Lib.hid hD2
        clear hcell hx htk hsn hgood' hrr hne hD1 hD2
        cases q
        · have hwl' : s.size ≤ 500 := by rw [← len_eq]; exact hwl
          have HWL : Hid (writeL (false, s.data.toList) = s.data.toList) := Lib.hid rfl
          by_cases hk0 : 0 < k
          all_goals
            first
              | (have tok : 0 < k := hk0)
              | (obtain rfl : k = 0 := by omega
                 simp only [Nat.zero_mul, Nat.add_zero] at c0 c1 HC0 HC1)
            go_wp2_with fail
            refine HRR.out.mono ?_
            rintro e w1 ⟨rfl, hb1⟩
            have hb1' := hb.trans (hb1.mono hbs)
            have d0 := (hb1'.cell (p := ⟨g, _, none⟩) hg).trans HC0.out
            have d1 := (hb1'.cell (p := ⟨g, _, none⟩) hg).trans HC1.out
            clear c0 c1 hb1 hr hwl
            go_wp2_with fail
            go_roundw
            case rel =>
              first
                | (refine ⟨k + 1, _, by omega, by go_num, rfl, ?_, ?_, HG'.out, hb1'⟩
                   · rw [HSN.out, if_neg (fun e => by have := HN.out.1 e; omega), HWL.out, bapp, HD1.out, HD.out]
                   · rw [ByteArray.size_append, HD2.out]; omega)
                | (refine ⟨1, _, by omega, rfl, rfl, ?_, ?_, HG'.out, hb1'⟩
                   · rw [HSN.out, if_pos (HN.out.2 (by simp)), HWL.out, bapp, HD.out]; rfl
                   · rw [ByteArray.size_append]; omega)
            case measure => simp [intOf]; omega
        · have ht : textB s.data.toList = true := hr
          have hqq := rquote_any s
          rw [quoteW_yes ht] at hqq
          obtain ⟨W, hW⟩ : ∃ W : ByteArray, W = ⟨(quoted s.data.toList).toArray⟩ := ⟨_, rfl⟩
          have hWl : W.data.toList = quoted s.data.toList := by rw [hW]
          have hWs : W.size ≤ 500 := by rw [← len_eq, hWl]; exact hwl
          have hqv : strV (quoted s.data.toList, 0) = .tuple #[.string W, .int .i64 0] := by rw [hW]; rfl
          rw [hqv] at hqq
          have HWL : Hid (writeL (true, s.data.toList) = W.data.toList) := Lib.hid (by rw [hWl]; rfl)
          have HQ := Lib.hid hqq
          clear hqq hqv hWl hW ht
          by_cases hk0 : 0 < k
          all_goals
            first
              | (have tok : 0 < k := hk0)
              | (obtain rfl : k = 0 := by omega
                 simp only [Nat.zero_mul, Nat.add_zero] at c0 c1 HC0 HC1)
            go_wp2_with fail
            refine HRR.out.mono ?_
            rintro e w1 ⟨rfl, hb1⟩
            have hb1' := hb.trans (hb1.mono hbs)
            have d0 := (hb1'.cell (p := ⟨g, _, none⟩) hg).trans HC0.out
            have d1 := (hb1'.cell (p := ⟨g, _, none⟩) hg).trans HC1.out
            clear c0 c1 hb1 hr hwl
            go_wp2_with fail
            refine (HQ.out _ hxl).mono ?_
            rintro e w2 ⟨rfl, hb2⟩
            have hb2' := hb1'.trans (hb2.mono hb1'.size)
            go_wp2_with fail
            go_roundw
            case rel =>
              first
                | (refine ⟨k + 1, _, by omega, by go_num, rfl, ?_, ?_, HG'.out, hb2'⟩
                   · rw [HSN.out, if_neg (fun e => by have := HN.out.1 e; omega), HWL.out, bapp, HD1.out, HD.out]
                   · rw [ByteArray.size_append, HD2.out]; omega)
                | (refine ⟨1, _, by omega, rfl, rfl, ?_, ?_, HG'.out, hb2'⟩
                   · rw [HSN.out, if_pos (HN.out.2 (by simp)), HWL.out, bapp, HD.out]; rfl
                   · rw [ByteArray.size_append]; omega)
            case measure => simp [intOf]; omega
      · have hany : xs.any (fun x => !rightB x) = true := by
          rw [List.any_eq_true]
          exact ⟨_, List.mem_of_getElem? HX.out, by simpa using hr⟩
        have hf := Lib.hid (show joinW xs = ([], 2) by rw [hjw.out, if_pos hany])
        rw [Bool.not_eq_true] at hr
        rw [hr] at hrr
        have HRR := Lib.hid hrr
        clear hany hrr htk hcell hx hr
        by_cases hk0 : 0 < k
        all_goals
          first
            | (have tok : 0 < k := hk0)
            | (obtain rfl : k = 0 := by omega
               simp only [Nat.zero_mul, Nat.add_zero] at c0 c1)
          go_wp2_with fail
          refine HRR.out.mono ?_
          rintro e w1 ⟨rfl, hb1⟩
          have hb1' := hb.trans (hb1.mono hbs)
          clear c0 c1 hb1
          go_wp2_with fail
          go_ret2
          exact ⟨ret_strV hf.out, hb1'⟩
    · obtain rfl : k = xs.length := by omega
      have hany : ¬ xs.any (fun x => !rightB x) = true := by
        rw [List.any_eq_true]
        rintro ⟨x, h1, h2⟩
        have := HGood.out x (by rw [List.take_length]; exact h1)
        rw [this] at h2; cases h2
      have hD' := HD.out
      rw [List.take_length] at hD'
      have hj2 : joinW xs = if 4096 < D.size then ([], 3) else (D.data.toList, 0) := by rw [hjw.out, if_neg hany, ← hD', len_eq]
      have HJ2 := Lib.hid hj2
      clear hany hD' hj2
      by_cases h4 : 4096 < D.size
      · have hf := Lib.hid (show joinW xs = ([], 3) by rw [HJ2.out, if_pos h4])
        go_wp2_with fail
        go_ret2
        exact ⟨ret_strV hf.out, hb⟩
      · have hf := Lib.hid (show joinW xs = (D.data.toList, 0) by rw [HJ2.out, if_neg h4])
        go_wp2_with fail
        go_ret2
        exact ⟨ret_strV2 hf.out, hb⟩
end Go.Proofs.YtdncfignegagjaaDoor
