import Derived.Test.YtmmgbofhbnflkaaYR14
namespace Go.Proofs.Ytmmgbofhbnflkaa
open Go.RowKit

/-! The reference's Root of an interval. -/
theorem nroot_exists (k : Nat) (hk : 0 < k) : ∀ a : Nat, ∃ r, IsRootN a k r
  | 0 => ⟨0, by rw [Nat.zero_pow hk]; exact Nat.le_refl _, by rw [Nat.zero_add, Nat.one_pow]; omega⟩
  | a + 1 => by
    obtain ⟨r, h1, h2⟩ := nroot_exists k hk a
    by_cases h : (r + 1) ^ k ≤ a + 1
    · refine ⟨r + 1, h, ?_⟩
      have h3 := npow_lt (show r + 1 < r + 1 + 1 by omega) hk
      omega
    · exact ⟨r, by omega, by omega⟩
theorem of_num_forms (n : Nat) (hn : n < 18446744073709551616) (W : World) : Calls Try.prog 60 #[.int .u64 (n : Int)] W fun e w' => ∃ A m c, e = .returned (.slice A m c) ∧ Num w' w'.heap.size (.slice A m c) n ∧ Below W.heap.size W w' :=
  (rof_any n hn W).mono fun e w' h => by
    obtain ⟨v, he, hn, hb, _⟩ := h
    obtain ⟨A, c, rfl, -⟩ := hn.form
    exact ⟨A, _, c, he, hn, hb⟩
theorem root_of (v : Value) (n k : Nat) (W : World) (hv : Num W W.heap.size v n) (hn : n < 2 ^ 63) (hk : 1 ≤ k) (hk2 : k ≤ 62) (r : Nat) (hr : IsRootN n k r) :
    Calls Try.prog 59 #[v, .int .i64 (k : Int)] W fun e w' => ∃ A m c, e = .returned (.tuple #[.slice A m c, .int .i64 0]) ∧ Num w' w'.heap.size (.slice A m c) r ∧ Below W.heap.size W w' := by
  have hl : (dg n).length ≤ 2 := len_two64 (by omega)
  refine (rRoot_small v (dg n) k W ⟨hv, by omega⟩ (examW_one (by omega)) (by rw [val_dg]; exact hn) hk hk2).mono ?_
  rintro e w' ⟨A, m, c, s, he, hs, h1, h2, hb⟩
  rw [val_dg] at h1 h2
  have : s = r := IsRootN.uniq ⟨h1, h2⟩ hr
  subst this
  exact ⟨A, m, c, he, hs, hb⟩
theorem pow_of (v : Value) (r k : Nat) (W : World) (hv : Num W W.heap.size v r) (hr : r < 2 ^ 64) (hk2 : k ≤ 62) :
    Calls Try.prog 61 #[v, .int .i64 (k : Int)] W fun e w' => ∃ A m c, e = .returned (.tuple #[.slice A m c, .int .i64 0]) ∧ Num w' w'.heap.size (.slice A m c) (r ^ k) ∧ Below W.heap.size W w' := by
  have hl : (dg r).length ≤ 2 := len_two64 hr
  have hp := len_pow r k 2 hl
  have hw : npowW (dg r) (k : Int) = (r ^ k, 0) := by
    unfold npowW fitW
    rw [if_pos (examW_one (by omega)), if_neg (by omega), Int.toNat_natCast, val_dg, if_neg (by omega), if_neg (by omega)]
  refine (rPow_any v (dg r) (k : Int) W ⟨hv, by omega⟩).mono ?_
  rw [hw]
  rintro e w' ⟨u, he, hn, hb⟩
  obtain ⟨A, c, rfl, -⟩ := hn.form
  exact ⟨A, _, c, he, hn, hb⟩
theorem small_of (v : Value) (r : Nat) (W : World) (hv : Num W W.heap.size v r) (hr : r < 2 ^ 64) :
    Calls Try.prog 62 #[v] W fun e w' => e = .returned (.tuple #[.int .u64 (r : Int), .int .i64 0]) ∧ Below W.heap.size W w' := by
  have hl : (dg r).length ≤ 2 := len_two64 hr
  have hw : smallW (dg r) = (r, 0) := by
    unfold smallW
    have hb : bitsOf r ≤ 64 := bits_le_iff.2 hr
    rw [if_pos (examW_one (by omega)), val_dg, if_neg (by omega)]
  have h := rSmall_any v (dg r) W ⟨hv, by omega⟩
  rw [hw] at h
  exact h

set_option maxRecDepth 100000 in
set_option maxHeartbeats 8000000 in
theorem rRoot03_good (n1 n2 k r1 r2 : Nat) (w : World) (hex : examI [((n1 : Int), (n2 : Int))] = 0) (hk : 1 ≤ k) (hk2 : k ≤ 62) (h1 : IsRootN n1 k r1) (h2 : IsRootN n2 k r2) :
    Calls Try.prog 26 #[.agg #[.int .i64 (n1 : Int), .int .i64 (n2 : Int)], .int .i64 (k : Int)] w fun e w' => e = .returned (.tuple #[.agg #[.int .i64 (r1 : Int), .int .i64 ((if r2 ^ k < n2 then r2 + 1 else r2 : Nat) : Int)], .int .i64 0]) ∧ Below w.heap.size w w' := by
  have hck := fun W => rcheck_any ((n1 : Int), (n2 : Int)) W
  rw [hex] at hck
  unfold ivV at hck
  simp only at hck
  have ho := examI_ok hex ((n1 : Int), (n2 : Int)) (by simp)
  have o1 := okB_iff.1 ho.1
  have o2 := okB_iff.1 ho.2.1
  simp only at o1 o2
  have hr1 := rootN_le hk h1.1 (by omega)
  have hr2 := rootN_le hk h2.1 (by omega)
  have p63 : (2 : Nat) ^ 63 = 9223372036854775808 := rfl
  have p64 : (2 : Nat) ^ 64 = 18446744073709551616 := rfl
  have HCK := Lib.hid hck
  have HOF1 := Lib.hid (fun W => of_num_forms n1 (by omega) W)
  have HOF2 := Lib.hid (fun W => of_num_forms n2 (by omega) W)
  have HRT1 := Lib.hid (fun W v (hv : Num W W.heap.size v n1) => root_of v n1 k W hv (by omega) hk hk2 r1 h1)
  have HRT2 := Lib.hid (fun W v (hv : Num W W.heap.size v n2) => root_of v n2 k W hv (by omega) hk hk2 r2 h2)
  have HPP := Lib.hid (fun W v (hv : Num W W.heap.size v r2) => pow_of v r2 k W hv (by omega) hk2)
  have HSM1 := Lib.hid (fun W v (hv : Num W W.heap.size v r1) => small_of v r1 W hv (by omega))
  have HSM2 := Lib.hid (fun W v (hv : Num W W.heap.size v r2) => small_of v r2 W hv (by omega))
  have hl2 : (dg n2).length ≤ 2 := len_two64 (by omega)
  have hlp := len_pow r2 k 2 (len_two64 (by omega))
  have HORD := Lib.hid (fun W u v (hu : Num W W.heap.size u (r2 ^ k)) (hv : Num W W.heap.size v n2) => rorder_num hu hv (by omega) (by omega))
  have u1 : IntKind.u64.wrap (n1 : Int) = (n1 : Int) := IntWalk.u64_in _ (by omega)
  have u2 : IntKind.u64.wrap (n2 : Int) = (n2 : Int) := IntWalk.u64_in _ (by omega)
  have s1 : IntKind.i64.wrap (r1 : Int) = (r1 : Int) := IntWalk.i64_in _ (by omega)
  have s2 : IntKind.i64.wrap (r2 : Int) = (r2 : Int) := IntWalk.i64_in _ (by omega)
  have s3 : IntKind.u64.wrap ((r2 : Int) + 1) = ((r2 + 1 : Nat) : Int) := by rw [IntWalk.u64_in _ (by omega)]; omega
  have s4 : IntKind.i64.wrap ((r2 + 1 : Nat) : Int) = ((r2 + 1 : Nat) : Int) := IntWalk.i64_in _ (by omega)
  have k1 : ¬ (k : Int) < 1 := by omega
  have k2 : ¬ (62 : Int) < (k : Int) := by omega
  have n10 : ¬ (n1 : Int) < 0 := by omega
  have b1 : (n1 : Int) ≤ 4611686018427387904 := by omega
  have b2 : (n2 : Int) ≤ 4611686018427387904 := by omega
  have b3 : (r1 : Int) ≤ 4611686018427387904 := by omega
  have b4 : (r2 : Int) ≤ 4611686018427387904 := by omega
  clear hck ho o1 o2 hr1 hr2 p63 p64 hl2 hlp h1 h2 hex hk hk2
  by_cases hlt : r2 ^ k < n2
  · obtain ⟨c, hc, hc0⟩ : ∃ c, cmpI (r2 ^ k) n2 = c ∧ c < 0 := ⟨_, rfl, by unfold cmpI; (repeat' split) <;> omega⟩
    rw [hc] at HORD
    rw [if_pos hlt]
    clear hc hlt
    go_enter Try.func26, Try.ntmps26
    go_wp2_with fail
    refine (HCK.out _).mono ?_
    rintro e w1 ⟨he, hb⟩
    subst he
    have F1 := Fm.of2 hb
    have c10 := F1.k0.c0
    have c11 := F1.k0.c1
    clear hb
    go_wp2_with fail
    refine (HOF1.out _).mono ?_
    rintro e w2 ⟨A2, m2, d2, he, hn, hb⟩
    subst he
    have F2 := F1.later hb
    clear F1
    have F1 := F2
    clear F2
    have HR1 := Lib.hid (HRT1.out _ _ hn)
    clear c10 c11 hb hn
    have c10 := F1.k0.c0
    have c11 := F1.k0.c1
    go_wp2_with fail
    refine HR1.out.mono ?_
    rintro e w3 ⟨A3, m3, d3, he, hn, hb⟩
    subst he
    have F2 := F1.later hb
    clear F1
    have F1 := F2
    clear F2
    have HX := Lib.hid hn
    clear HR1
    clear c10 c11 hb hn
    have c10 := F1.k0.c0
    have c11 := F1.k0.c1
    go_wp2_with fail
    refine (HOF2.out _).mono ?_
    rintro e w4 ⟨A4, m4, d4, he, hn, hb⟩
    subst he
    have F2 := F1.later hb
    clear F1
    have F1 := F2
    clear F2
    have HX' := Lib.hid (HX.out.up hb)
    clear HX
    have HX := HX'
    clear HX'
    have HR2 := Lib.hid (HRT2.out _ _ hn)
    clear c10 c11 hb hn
    have c10 := F1.k0.c0
    have c11 := F1.k0.c1
    go_wp2_with fail
    refine HR2.out.mono ?_
    rintro e w5 ⟨A5, m5, d5, he, hn, hb⟩
    subst he
    have F2 := F1.later hb
    clear F1
    have F1 := F2
    clear F2
    have HX' := Lib.hid (HX.out.up hb)
    clear HX
    have HX := HX'
    clear HX'
    have HY := Lib.hid hn
    have HPW := Lib.hid (HPP.out _ _ hn)
    clear HR2
    clear c10 c11 hb hn
    have c10 := F1.k0.c0
    have c11 := F1.k0.c1
    go_wp2_with fail
    refine HPW.out.mono ?_
    rintro e w6 ⟨A6, m6, d6, he, hn, hb⟩
    subst he
    have F2 := F1.later hb
    clear F1
    have F1 := F2
    clear F2
    have HX' := Lib.hid (HX.out.up hb)
    clear HX
    have HX := HX'
    clear HX'
    have HY' := Lib.hid (HY.out.up hb)
    clear HY
    have HY := HY'
    clear HY'
    have HP := Lib.hid hn
    have HS1 := Lib.hid (HSM1.out _ _ HX.out)
    clear HPW
    clear c10 c11 hb hn
    have c10 := F1.k0.c0
    have c11 := F1.k0.c1
    go_wp2_with fail
    refine HS1.out.mono ?_
    rintro e w7 ⟨he, hb⟩
    subst he
    have F2 := F1.later hb
    clear F1
    have F1 := F2
    clear F2
    have HY' := Lib.hid (HY.out.up hb)
    clear HY
    have HY := HY'
    clear HY'
    have HP' := Lib.hid (HP.out.up hb)
    clear HP
    have HP := HP'
    clear HP'
    have HS2 := Lib.hid (HSM2.out _ _ HY.out)
    clear HS1
    clear c10 c11 hb
    have c10 := F1.k0.c0
    have c11 := F1.k0.c1
    go_wp2_with fail
    refine HS2.out.mono ?_
    rintro e w8 ⟨he, hb⟩
    subst he
    have F2 := F1.later hb
    clear F1
    have F1 := F2
    clear F2
    have HP' := Lib.hid (HP.out.up hb)
    clear HP
    have HP := HP'
    clear HP'
    clear HS2
    clear c10 c11 hb
    have c10 := F1.k0.c0
    have c11 := F1.k0.c1
    go_wp2_with fail
    refine (HOF2.out _).mono ?_
    rintro e w9 ⟨A9, m9, d9, he, hn, hb⟩
    subst he
    have F2 := F1.later hb
    clear F1
    have F1 := F2
    clear F2
    have HP' := Lib.hid (HP.out.up hb)
    clear HP
    have HP := HP'
    clear HP'
    have hor := HORD.out _ _ _ HP.out hn
    clear c10 c11 hb hn
    have c10 := F1.k0.c0
    have c11 := F1.k0.c1
    have HOR := Lib.hid hor
    clear hor
    go_wp2_with fail
    refine HOR.out.mono ?_
    rintro e w10 ⟨he, hw⟩
    subst he
    subst hw
    obtain ⟨p, q, hr⟩ := F1.res
    have c30 := hr.c0
    have c31 := hr.c1
    have f30 := hr.f0
    have f31 := hr.f1
    clear hr
    have FB := Lib.hid F1
    clear F1
    go_wp2_with fail
    refine bodyPost_ret (v := .tuple #[.agg #[.int .i64 (r1 : Int), .int .i64 ((r2 + 1 : Nat) : Int)], .int .i64 0]) (by simp [results, Try.results26, c30, c31, go_sem]) rfl ⟨rfl, (FB.out.set _ _).bl⟩
  · obtain ⟨c, hc, hc0⟩ : ∃ c, cmpI (r2 ^ k) n2 = c ∧ ¬ c < 0 := ⟨_, rfl, by unfold cmpI; (repeat' split) <;> omega⟩
    rw [hc] at HORD
    rw [if_neg hlt]
    clear hc hlt
    go_enter Try.func26, Try.ntmps26
    go_wp2_with fail
    refine (HCK.out _).mono ?_
    rintro e w1 ⟨he, hb⟩
    subst he
    have F1 := Fm.of2 hb
    have c10 := F1.k0.c0
    have c11 := F1.k0.c1
    clear hb
    go_wp2_with fail
    refine (HOF1.out _).mono ?_
    rintro e w2 ⟨A2, m2, d2, he, hn, hb⟩
    subst he
    have F2 := F1.later hb
    clear F1
    have F1 := F2
    clear F2
    have HR1 := Lib.hid (HRT1.out _ _ hn)
    clear c10 c11 hb hn
    have c10 := F1.k0.c0
    have c11 := F1.k0.c1
    go_wp2_with fail
    refine HR1.out.mono ?_
    rintro e w3 ⟨A3, m3, d3, he, hn, hb⟩
    subst he
    have F2 := F1.later hb
    clear F1
    have F1 := F2
    clear F2
    have HX := Lib.hid hn
    clear HR1
    clear c10 c11 hb hn
    have c10 := F1.k0.c0
    have c11 := F1.k0.c1
    go_wp2_with fail
    refine (HOF2.out _).mono ?_
    rintro e w4 ⟨A4, m4, d4, he, hn, hb⟩
    subst he
    have F2 := F1.later hb
    clear F1
    have F1 := F2
    clear F2
    have HX' := Lib.hid (HX.out.up hb)
    clear HX
    have HX := HX'
    clear HX'
    have HR2 := Lib.hid (HRT2.out _ _ hn)
    clear c10 c11 hb hn
    have c10 := F1.k0.c0
    have c11 := F1.k0.c1
    go_wp2_with fail
    refine HR2.out.mono ?_
    rintro e w5 ⟨A5, m5, d5, he, hn, hb⟩
    subst he
    have F2 := F1.later hb
    clear F1
    have F1 := F2
    clear F2
    have HX' := Lib.hid (HX.out.up hb)
    clear HX
    have HX := HX'
    clear HX'
    have HY := Lib.hid hn
    have HPW := Lib.hid (HPP.out _ _ hn)
    clear HR2
    clear c10 c11 hb hn
    have c10 := F1.k0.c0
    have c11 := F1.k0.c1
    go_wp2_with fail
    refine HPW.out.mono ?_
    rintro e w6 ⟨A6, m6, d6, he, hn, hb⟩
    subst he
    have F2 := F1.later hb
    clear F1
    have F1 := F2
    clear F2
    have HX' := Lib.hid (HX.out.up hb)
    clear HX
    have HX := HX'
    clear HX'
    have HY' := Lib.hid (HY.out.up hb)
    clear HY
    have HY := HY'
    clear HY'
    have HP := Lib.hid hn
    have HS1 := Lib.hid (HSM1.out _ _ HX.out)
    clear HPW
    clear c10 c11 hb hn
    have c10 := F1.k0.c0
    have c11 := F1.k0.c1
    go_wp2_with fail
    refine HS1.out.mono ?_
    rintro e w7 ⟨he, hb⟩
    subst he
    have F2 := F1.later hb
    clear F1
    have F1 := F2
    clear F2
    have HY' := Lib.hid (HY.out.up hb)
    clear HY
    have HY := HY'
    clear HY'
    have HP' := Lib.hid (HP.out.up hb)
    clear HP
    have HP := HP'
    clear HP'
    have HS2 := Lib.hid (HSM2.out _ _ HY.out)
    clear HS1
    clear c10 c11 hb
    have c10 := F1.k0.c0
    have c11 := F1.k0.c1
    go_wp2_with fail
    refine HS2.out.mono ?_
    rintro e w8 ⟨he, hb⟩
    subst he
    have F2 := F1.later hb
    clear F1
    have F1 := F2
    clear F2
    have HP' := Lib.hid (HP.out.up hb)
    clear HP
    have HP := HP'
    clear HP'
    clear HS2
    clear c10 c11 hb
    have c10 := F1.k0.c0
    have c11 := F1.k0.c1
    go_wp2_with fail
    refine (HOF2.out _).mono ?_
    rintro e w9 ⟨A9, m9, d9, he, hn, hb⟩
    subst he
    have F2 := F1.later hb
    clear F1
    have F1 := F2
    clear F2
    have HP' := Lib.hid (HP.out.up hb)
    clear HP
    have HP := HP'
    clear HP'
    have hor := HORD.out _ _ _ HP.out hn
    clear c10 c11 hb hn
    have c10 := F1.k0.c0
    have c11 := F1.k0.c1
    have HOR := Lib.hid hor
    clear hor
    go_wp2_with fail
    refine HOR.out.mono ?_
    rintro e w10 ⟨he, hw⟩
    subst he
    subst hw
    obtain ⟨p, q, hr⟩ := F1.res
    have c30 := hr.c0
    have c31 := hr.c1
    have f30 := hr.f0
    have f31 := hr.f1
    clear hr
    have FB := Lib.hid F1
    clear F1
    go_wp2_with fail
    refine bodyPost_ret (v := .tuple #[.agg #[.int .i64 (r1 : Int), .int .i64 (r2 : Int)], .int .i64 0]) (by simp [results, Try.results26, c30, c31, go_sem]) rfl ⟨rfl, (FB.out.set _ _).bl⟩
end Go.Proofs.Ytmmgbofhbnflkaa
namespace Go.Proofs.Ytmmgbofhbnflkaa
open Go.RowKit

set_option maxRecDepth 100000 in
set_option maxHeartbeats 2000000 in
theorem rRoot03_low (a1 a2 k : Int) (w : World) (HCK : ∀ W, Calls Try.prog 15 #[.agg #[.int .i64 a1, .int .i64 a2]] W fun e w' => e = .returned (.int .i64 0) ∧ Below W.heap.size W w') (h : k < 1) :
    Calls Try.prog 26 #[.agg #[.int .i64 a1, .int .i64 a2], .int .i64 k] w fun e w' => e = .returned (.tuple #[.agg #[.int .i64 0, .int .i64 0], .int .i64 2]) ∧ Below w.heap.size w w' := by
  have HCK := Lib.hid HCK
  go_enter Try.func26, Try.ntmps26
  go_wp2_with fail
  refine (HCK.out _).mono ?_
  rintro e w1 ⟨he, hb⟩
  subst he
  have F1 := Fm.of2 hb
  have c10 := F1.k0.c0
  have c11 := F1.k0.c1
  clear hb
  obtain ⟨p, q, hr⟩ := F1.res
  have c30 := hr.c0
  have c31 := hr.c1
  have f30 := hr.f0
  have f31 := hr.f1
  clear hr
  have FB := Lib.hid F1
  clear F1
  go_wp2_with fail
  refine bodyPost_ret (v := .tuple #[.agg #[.int .i64 0, .int .i64 0], .int .i64 2]) (by simp [results, Try.results26, c30, c31, go_sem]) rfl ⟨rfl, (FB.out.set _ _).bl⟩
set_option maxRecDepth 100000 in
set_option maxHeartbeats 2000000 in
theorem rRoot03_high (a1 a2 k : Int) (w : World) (HCK : ∀ W, Calls Try.prog 15 #[.agg #[.int .i64 a1, .int .i64 a2]] W fun e w' => e = .returned (.int .i64 0) ∧ Below W.heap.size W w') (h : 62 < k) :
    Calls Try.prog 26 #[.agg #[.int .i64 a1, .int .i64 a2], .int .i64 k] w fun e w' => e = .returned (.tuple #[.agg #[.int .i64 0, .int .i64 0], .int .i64 2]) ∧ Below w.heap.size w w' := by
  have HCK := Lib.hid HCK
  have h' : ¬ k < 1 := by omega
  go_enter Try.func26, Try.ntmps26
  go_wp2_with fail
  refine (HCK.out _).mono ?_
  rintro e w1 ⟨he, hb⟩
  subst he
  have F1 := Fm.of2 hb
  have c10 := F1.k0.c0
  have c11 := F1.k0.c1
  clear hb
  obtain ⟨p, q, hr⟩ := F1.res
  have c30 := hr.c0
  have c31 := hr.c1
  have f30 := hr.f0
  have f31 := hr.f1
  clear hr
  have FB := Lib.hid F1
  clear F1
  go_wp2_with fail
  refine bodyPost_ret (v := .tuple #[.agg #[.int .i64 0, .int .i64 0], .int .i64 2]) (by simp [results, Try.results26, c30, c31, go_sem]) rfl ⟨rfl, (FB.out.set _ _).bl⟩
set_option maxRecDepth 100000 in
set_option maxHeartbeats 2000000 in
theorem rRoot03_down (a1 a2 k : Int) (w : World) (HCK : ∀ W, Calls Try.prog 15 #[.agg #[.int .i64 a1, .int .i64 a2]] W fun e w' => e = .returned (.int .i64 0) ∧ Below W.heap.size W w') (h1 : ¬ k < 1) (h2 : ¬ 62 < k) (h3 : a1 < 0) :
    Calls Try.prog 26 #[.agg #[.int .i64 a1, .int .i64 a2], .int .i64 k] w fun e w' => e = .returned (.tuple #[.agg #[.int .i64 0, .int .i64 0], .int .i64 9]) ∧ Below w.heap.size w w' := by
  have HCK := Lib.hid HCK
  go_enter Try.func26, Try.ntmps26
  go_wp2_with fail
  refine (HCK.out _).mono ?_
  rintro e w1 ⟨he, hb⟩
  subst he
  have F1 := Fm.of2 hb
  have c10 := F1.k0.c0
  have c11 := F1.k0.c1
  clear hb
  obtain ⟨p, q, hr⟩ := F1.res
  have c30 := hr.c0
  have c31 := hr.c1
  have f30 := hr.f0
  have f31 := hr.f1
  clear hr
  have FB := Lib.hid F1
  clear F1
  go_wp2_with fail
  refine bodyPost_ret (v := .tuple #[.agg #[.int .i64 0, .int .i64 0], .int .i64 9]) (by simp [results, Try.results26, c30, c31, go_sem]) rfl ⟨rfl, (FB.out.set _ _).bl⟩
set_option maxRecDepth 100000 in
set_option maxHeartbeats 2000000 in
theorem rRoot03_bad (a1 a2 k : Int) (er : Int) (w : World) (HCK : ∀ W, Calls Try.prog 15 #[.agg #[.int .i64 a1, .int .i64 a2]] W fun e w' => e = .returned (.int .i64 er) ∧ Below W.heap.size W w') (h : er ≠ 0) :
    Calls Try.prog 26 #[.agg #[.int .i64 a1, .int .i64 a2], .int .i64 k] w fun e w' => e = .returned (.tuple #[.agg #[.int .i64 0, .int .i64 0], .int .i64 er]) ∧ Below w.heap.size w w' := by
  have HCK := Lib.hid HCK
  have q1 : (er == 0) = false := by simpa using h
  have q2 : (er != 0) = true := by simpa using h
  go_enter Try.func26, Try.ntmps26
  go_wp2_with fail
  refine (HCK.out _).mono ?_
  rintro e w1 ⟨he, hb⟩
  subst he
  have F1 := Fm.of2 hb
  have c10 := F1.k0.c0
  have c11 := F1.k0.c1
  clear hb
  obtain ⟨p, q, hr⟩ := F1.res
  have c30 := hr.c0
  have c31 := hr.c1
  have f30 := hr.f0
  have f31 := hr.f1
  clear hr
  have FB := Lib.hid F1
  clear F1
  go_wp2_with fail
  refine bodyPost_ret (v := .tuple #[.agg #[.int .i64 0, .int .i64 0], .int .i64 er]) (by simp [results, Try.results26, c30, c31, go_sem]) rfl ⟨rfl, (FB.out.set _ _).bl⟩
theorem root_both (a1 a2 k : Int) (ha : I64 a1 ∧ I64 a2) (hk : I64 k) : ∃ x y c : Int,
    (∀ W, Calls Try.prog 25 #[.agg #[.int .i64 a1, .int .i64 a2], .int .i64 k] W fun e w' => e = .returned (.tuple #[.agg #[.int .i64 x, .int .i64 y], .int .i64 c]) ∧ Below W.heap.size W w') ∧
    (∀ W, Calls Try.prog 26 #[.agg #[.int .i64 a1, .int .i64 a2], .int .i64 k] W fun e w' => e = .returned (.tuple #[.agg #[.int .i64 x, .int .i64 y], .int .i64 c]) ∧ Below W.heap.size W w') := by
  have hp := fun W => root_fn_any (a1, a2) k W ha hk
  have hck := fun W => rcheck_any (a1, a2) W
  by_cases h0 : examI [(a1, a2)] = 0
  · rw [h0] at hck
    by_cases hk1 : k < 1
    · exact ⟨0, 0, 2, fun W => (hp W).mono (fun e w' h => by obtain ⟨r, he, hb, -, h2, -⟩ := h; rw [h2 h0 (.inl hk1)] at he; exact ⟨he, hb⟩), fun W => rRoot03_low a1 a2 k W hck hk1⟩
    · by_cases hk2 : 62 < k
      · exact ⟨0, 0, 2, fun W => (hp W).mono (fun e w' h => by obtain ⟨r, he, hb, -, h2, -⟩ := h; rw [h2 h0 (.inr hk2)] at he; exact ⟨he, hb⟩), fun W => rRoot03_high a1 a2 k W hck hk2⟩
      · by_cases hd : a1 < 0
        · exact ⟨0, 0, 9, fun W => (hp W).mono (fun e w' h => by obtain ⟨r, he, hb, -, -, h3, -⟩ := h; rw [h3 h0 (by omega) (by omega) hd] at he; exact ⟨he, hb⟩), fun W => rRoot03_down a1 a2 k W hck hk1 hk2 hd⟩
        · have ho := examI_ok h0 (a1, a2) (by simp)
          obtain ⟨n1, rfl⟩ := Int.eq_ofNat_of_zero_le (show 0 ≤ a1 by omega)
          obtain ⟨n2, rfl⟩ := Int.eq_ofNat_of_zero_le (show 0 ≤ a2 by have := ho.2.2; simp only at this; omega)
          obtain ⟨j, rfl⟩ := Int.eq_ofNat_of_zero_le (show 0 ≤ k by omega)
          obtain ⟨r1, h1⟩ := nroot_exists j (by omega) n1
          obtain ⟨r2, h2⟩ := nroot_exists j (by omega) n2
          refine ⟨(r1 : Int), ((if r2 ^ j < n2 then r2 + 1 else r2 : Nat) : Int), 0, fun W => (hp W).mono (fun e w' h => ?_), fun W => rRoot03_good n1 n2 j r1 r2 W h0 (by omega) (by omega) h1 h2⟩
          obtain ⟨r, he, hb, -, -, -, h4⟩ := h
          obtain ⟨lo, hi, g1, g2, g3⟩ := h4 h0 (by omega) (by omega) (by simp only; omega)
          rw [Int.toNat_natCast] at g1 g2 g3
          have i1 : IsRoot (n1 : Int) (r1 : Int) j := ⟨by omega, by exact_mod_cast h1.1, by exact_mod_cast h1.2⟩
          have i2 : IsRoot (n2 : Int) (r2 : Int) j := ⟨by omega, by exact_mod_cast h2.1, by exact_mod_cast h2.2⟩
          have q1 : lo = (r1 : Int) := g1.uniq i1
          have q2 : hi = (r2 : Int) := g2.uniq i2
          subst q1
          subst q2
          refine ⟨?_, hb⟩
          rw [he, g3]
          unfold ivE
          simp only
          by_cases hlt : r2 ^ j < n2
          · have hlt' : (r2 : Int) ^ j < (n2 : Int) := by exact_mod_cast hlt
            rw [if_pos hlt, if_pos hlt']
            rfl
          · have hlt' : ¬ (r2 : Int) ^ j < (n2 : Int) := fun h => hlt (by exact_mod_cast h)
            rw [if_neg hlt, if_neg hlt']
            rfl
  · refine ⟨0, 0, examI [(a1, a2)], fun W => (hp W).mono (fun e w' h => ?_), fun W => rRoot03_bad a1 a2 k _ W hck h0⟩
    obtain ⟨r, he, hb, h1, -⟩ := h
    rw [h1 h0] at he
    exact ⟨he, hb⟩
end Go.Proofs.Ytmmgbofhbnflkaa
