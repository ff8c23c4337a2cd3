import Derived.Test.YtdncfignegagjaaDoorRF1
namespace Go.Proofs.YtdncfignegagjaaDoor
open Go.RowKit

set_option maxHeartbeats 1000000 in
theorem rvalid_any (num den : Int) (w : World) (hn : -9223372036854775808 ≤ num ∧ num ≤ 9223372036854775807) (hd : -9223372036854775808 ≤ den ∧ den ≤ 9223372036854775807) :
    Calls Tryd.prog 55 #[.agg #[.int .i64 num, .int .i64 den]] w fun e w' => e = .returned (.bool (footB num den)) ∧ Below w.heap.size w w' := by
  by_cases h1 : den < 1
  · have hf := Lib.hid (footB_no (num := num) (den := den) (by omega))
    go_enter Tryd.func55, Tryd.ntmps55
    go_wp2_with fail
    go_ret
    exact ⟨ret_bool hf.out.symm, (Below.refl _ _).alloc (Nat.le_refl _) _⟩
  by_cases h2 : 15 < den
  · have hf := Lib.hid (footB_no (num := num) (den := den) (by omega))
    go_enter Tryd.func55, Tryd.ntmps55
    go_wp2_with fail
    go_ret
    exact ⟨ret_bool hf.out.symm, (Below.refl _ _).alloc (Nat.le_refl _) _⟩
  by_cases h3 : num < 1
  · have hf := Lib.hid (footB_no (num := num) (den := den) (by omega))
    go_enter Tryd.func55, Tryd.ntmps55
    go_wp2_with fail
    go_ret
    exact ⟨ret_bool hf.out.symm, (Below.refl _ _).alloc (Nat.le_refl _) _⟩
  by_cases h4 : 64 * den < num
  · have hf := Lib.hid (footB_no (num := num) (den := den) (by omega))
    go_enter Tryd.func55, Tryd.ntmps55
    go_wp2_with fail
    go_ret
    exact ⟨ret_bool hf.out.symm, (Below.refl _ _).alloc (Nat.le_refl _) _⟩
  obtain ⟨a, rfl⟩ : ∃ a : Nat, num = a := ⟨num.toNat, by omega⟩
  obtain ⟨b, rfl⟩ : ∃ b : Nat, den = b := ⟨den.toNat, by omega⟩
  have hf := Lib.hid (footB_gcd (num := a) (den := b) (by omega))
  go_enter Tryd.func55, Tryd.ntmps55
  go_wp2_with fail
  refine (common_any a b _ (by omega) (by omega)).mono ?_
  rintro e w' ⟨rfl, hb⟩
  go_wp2_with fail
  go_ret
  exact ⟨ret_bool (by rw [hf.out]; simp), ((Below.refl _ _).alloc (Nat.le_refl _) _).trans (hb.mono (by simp))⟩

set_option maxHeartbeats 1000000 in
set_option maxRecDepth 100000 in
theorem rfeet_any (num den : Int) (w : World) (hT : Tabs w) (hn : -9223372036854775808 ≤ num ∧ num ≤ 9223372036854775807) (hd : -9223372036854775808 ≤ den ∧ den ≤ 9223372036854775807) :
    Calls Tryd.prog 27 #[.agg #[.int .i64 num, .int .i64 den]] w fun e w' => e = .returned (strV (feetW num den)) ∧ Below w.heap.size w w' := by
  have HT := Lib.hid hT
  cases hv : footB num den
  · have hf := Lib.hid (feetW_no hv)
    have HV := Lib.hid hv
    clear hv
    go_enter Tryd.func27, Tryd.ntmps27
    go_wp2_with fail
    refine (rvalid_any num den _ hn hd).mono ?_
    rintro e w1 ⟨rfl, hb⟩
    rw [HV.out]
    have hS := FS.of_box HT.out hb
    go_wp2_with fail
    go_ret2
    exact ⟨ret_strV hf.out, hS.bel⟩
  have HV := Lib.hid hv
  have hbd := footB_bounds hv
  by_cases h1 : den = 1
  · subst h1
    have hf := Lib.hid (feetW_one hv)
    clear hv
    go_enter Tryd.func27, Tryd.ntmps27
    go_wp2_with fail
    refine (rvalid_any num 1 _ hn hd).mono ?_
    rintro e w1 ⟨rfl, hb⟩
    rw [HV.out]
    have hS := FS.of_box HT.out hb
    have c0 := hS.num
    have c1 := hS.den
    go_wp2_with fail
    refine (rdigits_any num hn.1 hn.2 _).mono ?_
    rintro e w2 ⟨rfl, hb2⟩
    go_wp2_with fail
    go_ret2
    exact ⟨ret_strV hf.out, (hS.below hb2).bel⟩
  · have e1 : (den == 1) = false := by simp [h1]
    obtain ⟨a, rfl⟩ : ∃ a : Nat, num = a := ⟨num.toNat, by omega⟩
    obtain ⟨b, rfl⟩ : ∃ b : Nat, den = b := ⟨den.toNat, by omega⟩
    have hq0 : 0 ≤ (a : Int) % (b : Int) := Int.emod_nonneg _ (by omega)
    have hq1 : (a : Int) % (b : Int) < b := Int.emod_lt_of_pos _ (by omega)
    have ht : (a : Int).tmod (b : Int) = (a : Int) % (b : Int) := Int.tmod_eq_emod_of_nonneg (by omega)
    have hr0 : 0 ≤ (a : Int) / (b : Int) := Int.ediv_nonneg (by omega) (by omega)
    have hr1 : (a : Int) / (b : Int) ≤ a := Int.ediv_le_self _ (by omega)
    have htd : (a : Int).tdiv (b : Int) = (a : Int) / (b : Int) := Int.tdiv_eq_ediv_of_nonneg (by omega)
    have hff : feetW a b = if (a : Int) < b then (Lib.itoa ((a : Int) % b) ++ [47] ++ Lib.itoa b, 0) else (Lib.itoa ((a : Int) / b) ++ [43] ++ (Lib.itoa ((a : Int) % b) ++ [47] ++ Lib.itoa b), 0) := by
      rw [feetW, if_pos hv, if_neg h1]
    have HF := Lib.hid hff
    have hab : ¬ a = b := fun e => by
      subst e
      have h9 := footB_gcd (num := a) (den := a) ⟨hbd.1, hbd.2.1, hbd.2.2.1, hbd.2.2.2⟩
      rw [hv] at h9
      have h8 := of_decide_eq_true h9.symm
      simp only [Int.toNat_natCast, Nat.gcd_self] at h8
      omega
    clear hff hv
    generalize hq : (a : Int) % (b : Int) = q at *
    generalize hr : (a : Int) / (b : Int) = r at *
    have Hq := Lib.hid hq
    have Hr := Lib.hid hr
    clear hq hr
    have l1 := Lib.itoa_length_le q (by omega) (by omega)
    have l2 := Lib.itoa_length_le b (by omega) (by omega)
    have l3 := Lib.itoa_length_le r (by omega) (by omega)
    have hb0 : ¬ b = 0 := by omega
    have m1 : ¬ 9223372036854775807 < (Lib.itoa q).length + 1 := by omega
    have m2 : ¬ 9223372036854775807 < (Lib.itoa q).length + 1 + (Lib.itoa b).length := by omega
    go_enter Tryd.func27, Tryd.ntmps27
    go_wp2_with fail
    refine (rvalid_any a b _ hn hd).mono ?_
    rintro e w1 ⟨rfl, hb⟩
    rw [HV.out]
    have hS := FS.of_box HT.out hb
    have c0 := hS.num
    have c1 := hS.den
    go_wp2_with fail
    go_region_held3 (fun w' => FS w w.heap.size a b w' ∧ w'.cell? ⟨w.heap.size, 0, none⟩ = some (.int .i64 a) ∧ w'.cell? ⟨w.heap.size, 1, none⟩ = some (.int .i64 b)) (refine ⟨?_, ?_, ?_⟩ <;> first | assumption | (exact FS.drew ‹_›) | go_keep)
      (first | (go_at_call 21; refine Calls.mono (rdigits_any _ ?_ ?_ _) ?_; (omega); (omega); rintro e w2 ⟨rfl, hb2⟩; have hS2 := FS.below (by first | assumption | exact FS.drew ‹_›) hb2; have c0' := hS2.num; have c1' := hS2.den))
    all_goals
      by_cases h5 : ¬ (b : Int) < (a : Int)
      · go_wp2_with fail
        go_ret2
        exact ⟨ret_strV2 (by rw [HF.out, if_pos (by omega)]; simp), FS.bel (by assumption)⟩
      · go_wp2_with fail
        refine Calls.mono (rdigits_any r ?_ ?_ _) ?_
        · omega
        · omega
        rintro e w3 ⟨rfl, hb3⟩
        have hS3 := FS.below (by assumption) hb3
        go_wp2_with fail
        go_ret2
        exact ⟨ret_strV2 (by rw [HF.out, if_neg (by omega)]; simp), hS3.bel⟩
end Go.Proofs.YtdncfignegagjaaDoor
