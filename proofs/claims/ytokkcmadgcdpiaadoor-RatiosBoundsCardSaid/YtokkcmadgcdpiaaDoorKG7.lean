import Derived.Test.YtokkcmadgcdpiaaDoorKG6
namespace Go.Proofs.YtokkcmadgcdpiaaDoor
open Go.RowKit

/-! The law that Power and Floor lie between. -/
set_option maxRecDepth 100000 in
set_option maxHeartbeats 16000000 in
theorem lawBounds_any (A : Option Addr) (n cap : Nat) (l : List (Int × Int)) (d t : Int) (w : World) (hp : PrL w) (h : n ≤ 6 → TmI w w.heap.size (.slice A n cap) l) (hc : A = none → cap = 0) :
    Calls Tryd.prog 9 #[.slice A n cap, .int .i64 d, .int .i64 t] w fun e w' => e = .returned (.bool true) ∧ Below w.heap.size w w' := by
  have hsz := fun W (hW : Below w.heap.size w W) => size_any A n cap l W (fun h6 => TmI.up (h h6) hW)
  have HSZ := Lib.hid hsz
  have HP := Lib.hid hp
  have HV0 := Lib.hid h
  have HB := Lib.hid (Below.refl w.heap.size w)
  clear hsz hp h
  go_enter Tryd.func9, Tryd.ntmps9
  go_wp2_with fail
  refine (HSZ.out _ HB.out).mono ?_
  rintro e u1 ⟨s, he, hs, hbl⟩
  subst he
  have tB := HB.out.trans (hbl.mono HB.out.size)
  clear hbl HB 
  have HB := Lib.hid tB
  clear tB
  have HS := Lib.hid hs
  clear hs
  by_cases hs8 : 8000 < s
  case pos =>
    clear HS
    go_wp2_with fail
    refine (awake_any _ (HP.out.below HB.out)).mono ?_
    rintro e u2 ⟨he, hbl⟩
    subst he
    have HBZ := Lib.hid (HB.out.trans (hbl.mono HB.out.size))
    clear hbl
    go_wp2
    go_ret
    exact ⟨rfl, HBZ.out⟩
  by_cases c1 : d < 1
  case pos =>
    clear HS
    go_wp2_with fail
    refine (awake_any _ (HP.out.below HB.out)).mono ?_
    rintro e u2 ⟨he, hbl⟩
    subst he
    have HBZ := Lib.hid (HB.out.trans (hbl.mono HB.out.size))
    clear hbl
    go_wp2
    go_ret
    exact ⟨rfl, HBZ.out⟩
  by_cases c2 : 8 < d
  case pos =>
    clear HS
    go_wp2_with fail
    refine (awake_any _ (HP.out.below HB.out)).mono ?_
    rintro e u2 ⟨he, hbl⟩
    subst he
    have HBZ := Lib.hid (HB.out.trans (hbl.mono HB.out.size))
    clear hbl
    go_wp2
    go_ret
    exact ⟨rfl, HBZ.out⟩
  by_cases c3 : t < 1
  case pos =>
    clear HS
    go_wp2_with fail
    refine (awake_any _ (HP.out.below HB.out)).mono ?_
    rintro e u2 ⟨he, hbl⟩
    subst he
    have HBZ := Lib.hid (HB.out.trans (hbl.mono HB.out.size))
    clear hbl
    go_wp2
    go_ret
    exact ⟨rfl, HBZ.out⟩
  by_cases c4 : 1000000 < t
  case pos =>
    clear HS
    go_wp2_with fail
    refine (awake_any _ (HP.out.below HB.out)).mono ?_
    rintro e u2 ⟨he, hbl⟩
    subst he
    have HBZ := Lib.hid (HB.out.trans (hbl.mono HB.out.size))
    clear hbl
    go_wp2
    go_ret
    exact ⟨rfl, HBZ.out⟩
  obtain ⟨hn, hok, k1, hk1, -, hex, hall⟩ : n ≤ 6 ∧ szOk l ∧ ∃ k : Nat, s = (k : Int) ∧ k ≤ 400000 ∧ (∀ x ∈ l, x.2.natAbs ≤ k) ∧ allP (natT l) ≤ 2 ^ k := by
    rcases HS.out with h | h
    · omega
    · exact h
  clear HS
  subst hk1
  obtain ⟨k, rfl⟩ := Int.eq_ofNat_of_zero_le (show 0 ≤ d by omega)
  obtain ⟨S, rfl⟩ := Int.eq_ofNat_of_zero_le (show 0 ≤ t by omega)
  have hv := HV0.out hn
  have hln : n = l.length := by obtain ⟨A', cap', e, -, -⟩ := hv; cases e; rfl
  have hnl : (natT l).length = n := by rw [hln]; simp [natT]
  have hvW : ∀ W, Below w.heap.size w W → TmI W W.heap.size (.slice A n cap) l := fun W hW => TmI.up hv hW
  have htW : ∀ W, Below w.heap.size w W → TmC W W.heap.size (.slice A n cap) (natT l) := fun W hW => (hvW W hW).nat (fun x hx => by have := (hok x hx).1; omega)
  have hpd : ∀ W, Below w.heap.size w W → Calls Tryd.prog 39 #[.slice A n cap, .int .i64 1] W fun e w' => ∃ u d, e = .returned (.tuple #[u, d, .bool true]) ∧ Wd.Arg w' u (Wd.dg (upP (natT l))) ∧ Wd.Arg w' d (Wd.dg (dnP (natT l))) ∧ Below W.heap.size W w' := fun W hW => by
    have hp8 := pow_to (m := 8000) hall (by omega)
    have h1 := products_any A n cap l 1 W (hvW W hW) hn hok (by omega) (by omega) (fun x hx => by have := hex x hx; omega) (by rw [scL_one]; exact hp8)
    rw [scL_one] at h1
    exact h1
  have hps : posN (natT l) := by have := posT hok ((1 : Nat) : Int); rwa [scL_one] at this
  have hU := Nat.le_trans (up_le_all hps) hall
  have hD := Nat.le_trans (dn_le_all hps) hall
  have hpw : ∀ W, Below w.heap.size w W → Calls Tryd.prog 17 #[.int .i64 (S : Int), .slice A n cap, .int .i64 (k : Int)] W fun e w' => SrPost (PwF (natT l) k S) 0 e ∧ Below W.heap.size W w' := fun W hW => by
    have h1 := Power_any A cap (natT l) (k : Int) S 20 W (by rw [hnl]; exact htW W hW) hc (valid_sz hok (by omega)) (by omega) (by omega) (by omega) (by omega) (fun m h1 h2 => pw_sign hok (by omega) (by omega) (by omega) (by omega) h1 h2)
    rw [hnl] at h1
    exact h1
  have hle := fun M => pw_le (natT l) S M k (by omega)
  have heq := fun M hM => pw_eq (natT l) S M k hM
  have hf0 : PwF (natT l) k S 0 = 1 := if_pos rfl
  have hbt : ∀ (M : Nat) (va vx vb vy : Value) (W : World), M ≤ 1000000000001 → Wd.Arg W va (Wd.dg (dnP (natT l))) → Wd.Arg W vx (Wd.dg M) → Wd.Arg W vb (Wd.dg (upP (natT l))) → Wd.Arg W vy (Wd.dg S) → Calls Tryd.prog 41 #[va, vx, vb, vy, .int .i64 (k : Int)] W fun e w' => e = .returned (.tuple #[.bool (decide (0 ≤ PwF (natT l) k S M)), .bool (decide (dnP (natT l) * M ^ k = upP (natT l) * S ^ k))]) ∧ Below W.heap.size W w' := fun M va vx vb vy W hM h1 h2 h3 h4 => by
    have gM : M ≤ 2 ^ 40 := Nat.le_trans hM (by decide)
    have gS : S ≤ 2 ^ 20 := Nat.le_trans (show S ≤ 1000000 by omega) (by decide)
    have h := between_any va vx vb vy _ M _ S k W h1 h2 h3 h4 (by omega) (dg512 hD (by omega)) (dg512 gM (by omega)) (dg512 hU (by omega)) (dg512 gS (by omega)) (dg512 (pow_bd gM) (by omega)) (dg512 (pow_bd gS) (by omega)) (dg512 (mul_bd2 hD (pow_bd gM)) (by omega)) (dg512 (mul_bd2 hU (pow_bd gS)) (by omega))
    rw [hle] at h
    exact h
  have HV := Lib.hid hvW
  have HT := Lib.hid htW
  have HPD := Lib.hid hpd
  have HPW := Lib.hid hpw
  have HBT := Lib.hid hbt
  have HEQ := Lib.hid heq
  have HF0 := Lib.hid hf0
  have HOK := Lib.hid hok
  have HN6 := Lib.hid hn
  have HN := Lib.hid (show l.length ≤ 6 by omega)
  clear hv hvW htW hpd hpw hbt hle heq hf0 hps hU hD hok hex hall hn hln hnl hc HV0
  go_wp2_with fail
  refine (HPD.out _ HB.out).mono ?_
  rintro e u2 ⟨vu, vd, he, hVU, hVD, hbl⟩
  subst he
  have tB := HB.out.trans (hbl.mono HB.out.size)
  clear hbl HB 
  have HB := Lib.hid tB
  clear tB
  have VU := Lib.hid hVU
  clear hVU
  have VD := Lib.hid hVD
  clear hVD
  go_wp2_with fail
  refine (HPW.out _ HB.out).mono ?_
  rintro e u3 ⟨hsp, hbl⟩
  have tB := HB.out.trans (hbl.mono HB.out.size)
  have tVU := VU.out.up hbl
  have tVD := VD.out.up hbl
  clear hbl HB VU VD HPW HPD
  have HB := Lib.hid tB
  have VU := Lib.hid tVU
  have VD := Lib.hid tVD
  clear tB tVU tVD
  rcases hsp with ⟨-, he⟩ | ⟨-, m, m1, m2, m3, m4, he⟩
  case inl =>
    subst he
    clear VU VD HBT HEQ HF0
    go_wp2_with fail
    refine (HSZ.out _ HB.out).mono ?_
    rintro e u4 ⟨s2, he, hs2, hbl⟩
    subst he
    have tB := HB.out.trans (hbl.mono HB.out.size)
    clear hbl HB 
    have HB := Lib.hid tB
    clear tB
    have HS2 := Lib.hid hs2
    clear hs2
    have hsb : 0 ≤ s2 ∧ s2 ≤ 400000 := by
      rcases HS2.out with h | ⟨-, -, k2, h, h2, -⟩ <;> omega
    obtain ⟨Q, hQ⟩ : ∃ Q, s2 * (S : Int) = Q := ⟨_, rfl⟩
    have hQ1 : 0 ≤ Q ∧ Q ≤ 400000 * 1000000 := by
      rw [← hQ]
      exact ⟨Int.mul_nonneg hsb.1 (by omega), Int.mul_le_mul hsb.2 (by omega) (by omega) (by omega)⟩
    have eQ : IntKind.i64.wrap Q = Q := IntWalk.i64_in _ (by omega)
    by_cases hQ8 : 8000 < Q
    case pos =>
      clear HS2
      go_wp2_with fail
      refine (awake_any _ (HP.out.below HB.out)).mono ?_
      rintro e u5 ⟨he, hbl⟩
      subst he
      have HBZ := Lib.hid (HB.out.trans (hbl.mono HB.out.size))
      clear hbl
      go_wp2
      go_ret
      exact ⟨rfl, HBZ.out⟩
    obtain ⟨k2, hk2, hex2, hall2⟩ : ∃ k2 : Nat, s2 = (k2 : Int) ∧ (∀ x ∈ l, x.2.natAbs ≤ k2) ∧ allP (natT l) ≤ 2 ^ k2 := by
      rcases HS2.out with h | ⟨-, -, k2, h, -, h3, h4⟩
      · exfalso
        rw [h] at hQ
        omega
      · exact ⟨k2, h, h3, h4⟩
    subst hk2
    obtain ⟨E, hE⟩ : ∃ E : Nat, k2 * S = E := ⟨_, rfl⟩
    have hEQ : (E : Int) = Q := by rw [← hE, ← hQ, Int.natCast_mul]
    have hE8 : E ≤ 8000 := by omega
    have hxS : ∀ x ∈ l, x.2.natAbs * S ≤ E := fun x hx => by rw [← hE]; exact Nat.mul_le_mul_right _ (hex2 x hx)
    have hallS : allP (scL S (natT l)) ≤ 2 ^ E := by rw [allP_sc, ← hE]; exact pow_bd hall2
    have hps := posT HOK.out (S : Int)
    have hUS := Nat.le_trans (up_le_all hps) hallS
    have hDS := Nat.le_trans (dn_le_all hps) hallS
    have hp8 := pow_to (m := 8000) hallS hE8
    have hu8 := pow_to (m := 8000) hUS hE8
    have hd8 := pow_to (m := 8000) hDS hE8
    have hfar := fun z => two_far (z := z) hps hUS hDS
    have hfl := fun W (hW : Below w.heap.size w W) => Floor_any (.slice A n cap) (natT l) (k : Int) (S : Int) 20 W (HT.out W hW) (valid_sz HOK.out HN.out) (by omega) (by omega) (by omega) (by omega) (fun m h1 h2 => fl_sign HOK.out HN.out (fun x hx => Nat.le_trans (hxS x hx) hE8) (by omega) (by omega) h1 h2)
    have hpd2 := fun W (hW : Below w.heap.size w W) => products_any A n cap l S W (HV.out W hW) HN6.out HOK.out (by omega) (by omega) (fun x hx => Nat.le_trans (hxS x hx) hE8) hp8
    have hpw2 := fun (z : Int) (vn vd : Value) (W : World) (hn : Wd.Arg W vn (Wd.dg (upP (scL S (natT l))))) (hd : Wd.Arg W vd (Wd.dg (dnP (scL S (natT l))))) (hz : -8300 ≤ z ∧ z ≤ 8300) => powers_any z vn vd _ _ W hn hd hz hu8 hd8
    simp only [two_le, two_eq] at hpw2
    generalize upP (scL S (natT l)) = U2 at *
    generalize dnP (scL S (natT l)) = D2 at *
    have HFL := Lib.hid hfl
    have HPD2 := Lib.hid hpd2
    have HPW2 := Lib.hid hpw2
    have HFAR := Lib.hid hfar
    have HQ8 := Lib.hid hE8
    clear hfl hpd2 hpw2 hfar hUS hDS hps hallS hxS hex2 hall2 HS2 hE8 hE hQ1 hp8 hu8 hd8
    have s1 := eQ
    clear eQ
    go_wp2_with fail
    refine (HFL.out _ HB.out).mono ?_
    rintro e u5 ⟨hsp, hbl⟩
    have tB := HB.out.trans (hbl.mono HB.out.size)
    clear hbl HB HFL
    have HB := Lib.hid tB
    clear tB
    obtain ⟨m, m1, m2, m3, m4, he⟩ : ∃ m : Int, -1000000000000 ≤ m ∧ m ≤ 1000000000000 ∧ 0 ≤ sgnP (scL S (natT l) ++ [(2, -(m * (k : Int)))]) ∧ sgnP (scL S (natT l) ++ [(2, -((m + 1) * (k : Int)))]) < 0 ∧ e = .returned (.tuple #[.int .i64 m, .bool (sgnP (scL S (natT l) ++ [(2, -(m * (k : Int)))]) == 0), .int .i64 0]) := by
      rcases hsp with ⟨hc, -⟩ | ⟨-, m, h1, h2, h3, h4, h5⟩
      · exfalso
        have a1 := (HFAR.out (-1000000000000 * (k : Int))).1 (by have := HQ8.out; omega)
        have a2 := (HFAR.out (1000000000001 * (k : Int))).2 (by have := HQ8.out; omega)
        simp only at hc
        omega
      · exact ⟨m, h1, h2, h3, h4, h5⟩
    subst he
    clear hsp
    obtain ⟨z1, hz1⟩ : ∃ z, m * (k : Int) = z := ⟨_, rfl⟩
    obtain ⟨z2, hz2⟩ : ∃ z, (m + 1) * (k : Int) = z := ⟨_, rfl⟩
    rw [hz1] at m3 ⊢
    rw [hz2] at m4
    have hz3 : z2 = z1 + (k : Int) := by rw [← hz2, ← hz1, Int.add_mul, Int.one_mul]
    have b1 : z1 ≤ 8000 := by
      rcases Int.lt_or_le (E : Int) z1 with h | h
      · have := (HFAR.out z1).2 h; omega
      · have := HQ8.out; omega
    have b2 : -8000 < z2 := by
      rcases Int.lt_or_le (-(E : Int)) z2 with h | h
      · have := HQ8.out; omega
      · have := (HFAR.out z2).1 h; omega
    have v1 : m ≤ 8000 := by
      rcases Int.lt_or_le 8000 m with h | h
      · exfalso
        have := Int.mul_le_mul_of_nonneg_left (show (1 : Int) ≤ (k : Int) by omega) (show 0 ≤ m by omega)
        rw [hz1] at this; omega
      · exact h
    have v2 : -8000 ≤ m := by
      rcases Int.lt_or_le m (-8000) with h | h
      · exfalso
        have := Int.mul_le_mul_of_nonneg_right (show m + 1 ≤ -8000 by omega) (show 0 ≤ (k : Int) by omega)
        rw [hz2] at this; omega
      · exact h
    subst hz3
    have y1 : ¬ m < -8000 := by omega
    have y2 : ¬ 8000 < m := by omega
    have e1 : IntKind.i64.wrap z1 = z1 := IntWalk.i64_in _ (by omega)
    have e2 : IntKind.i64.wrap (z1 + (k : Int)) = z1 + (k : Int) := IntWalk.i64_in _ (by omega)
    have hpa := fun vn vd W hn hd => HPW2.out z1 vn vd W hn hd (by omega)
    have hpb := fun vn vd W hn hd => HPW2.out (z1 + (k : Int)) vn vd W hn hd (by omega)
    rw [decide_eq_true m3] at hpa
    rw [decide_eq_false (show ¬ 0 ≤ sgnP (scL S (natT l) ++ [(2, -(z1 + (k : Int)))]) by omega)] at hpb
    generalize (sgnP (scL S (natT l) ++ [(2, -z1)]) == 0) = bb at *
    generalize (sgnP (scL S (natT l) ++ [(2, -(z1 + (k : Int)))]) == 0) = bc at *
    have HPA := Lib.hid hpa
    have HPB := Lib.hid hpb
    clear hpa hpb HPW2 HFAR m3 m4
    go_wp2_with fail
    refine (HPD2.out _ HB.out).mono ?_
    rintro e u6 ⟨vu, vd, he, hVU, hVD, hbl⟩
    subst he
    have tB := HB.out.trans (hbl.mono HB.out.size)
    clear hbl HB 
    have HB := Lib.hid tB
    clear tB
    have VU := Lib.hid hVU
    clear hVU
    have VD := Lib.hid hVD
    clear hVD
    go_wp2_with fail
    refine (HPA.out _ _ _ VU.out VD.out).mono ?_
    rintro e u7 ⟨he, hbl⟩
    subst he
    have tB := HB.out.trans (hbl.mono HB.out.size)
    have tVU := VU.out.up hbl
    have tVD := VD.out.up hbl
    clear hbl HB VU VD
    have HB := Lib.hid tB
    clear tB
    have VU := Lib.hid tVU
    clear tVU
    have VD := Lib.hid tVD
    clear tVD
    go_wp2_with fail
    refine (HPB.out _ _ _ VU.out VD.out).mono ?_
    rintro e u8 ⟨he, hbl⟩
    subst he
    have tB := HB.out.trans (hbl.mono HB.out.size)
    clear hbl HB VU VD
    have HB := Lib.hid tB
    clear tB
    cases bb
    all_goals
      go_wp2_with fail
      refine (awake_any _ (HP.out.below HB.out)).mono ?_
      rintro e u9 ⟨he, hbl⟩
      subst he
      have HBZ := Lib.hid (HB.out.trans (hbl.mono HB.out.size))
      clear hbl
      go_wp2
      go_ret
      exact ⟨rfl, HBZ.out⟩
  case inr =>
    subst he
    obtain ⟨M, rfl⟩ := Int.eq_ofNat_of_zero_le m1
    have hb1 := fun va vx vb vy W => HBT.out M va vx vb vy W (by omega)
    have hb2 := fun va vx vb vy W => HBT.out (M + 1) va vx vb vy W (by omega)
    rw [decide_eq_true m3] at hb1
    rw [decide_eq_false (show ¬ 0 ≤ PwF (natT l) k S ((M + 1 : Nat) : Int) by rw [Int.natCast_add]; exact Int.not_le.2 m4)] at hb2
    obtain ⟨b, hb, hbx⟩ : ∃ b : Bool, decide (dnP (natT l) * M ^ k = upP (natT l) * S ^ k) = b ∧ ((0 < M ∧ (PwF (natT l) k S M == 0) = b) ∨ (M = 0 ∧ (PwF (natT l) k S M == 0) = false)) := by
      refine ⟨_, rfl, ?_⟩
      rcases Nat.eq_zero_or_pos M with h | h
      · refine .inr ⟨h, ?_⟩
        subst h
        show (PwF (natT l) k S 0 == 0) = false
        rw [HF0.out]; rfl
      · exact .inl ⟨h, (HEQ.out M h).symm⟩
    rw [hb] at hb1
    generalize decide (dnP (natT l) * (M + 1) ^ k = upP (natT l) * S ^ k) = b' at *
    generalize (PwF (natT l) k S M == 0) = bx at *
    have HB1 := Lib.hid hb1
    have HB2 := Lib.hid hb2
    have ho2 : ∀ W, Calls Tryd.prog 42 #[.int .u64 ((M : Int) + 1)] W fun e w' => ∃ v, e = .returned v ∧ Wd.Arg w' v (Wd.dg (M + 1)) ∧ Below W.heap.size W w' := fun W => by
      have h := nOf (M + 1) (by omega) W
      rw [Int.natCast_add] at h
      exact h
    have HO2 := Lib.hid ho2
    clear hb1 hb2 hb m3 m4 ho2 HBT HEQ HF0
    have z0 : ¬ (M : Int) < 0 := by omega
    have z1 : ¬ (1000000000000 : Int) < (M : Int) := by omega
    have z2 : IntKind.u64.wrap (M : Int) = (M : Int) := IntWalk.u64_in _ (by omega)
    have z3 : IntKind.u64.wrap ((M : Int) + 1) = (M : Int) + 1 := IntWalk.u64_in _ (by omega)
    have z4 : IntKind.i64.wrap ((M : Int) + 1) = (M : Int) + 1 := IntWalk.i64_in _ (by omega)
    have z5 : IntKind.u64.wrap (S : Int) = (S : Int) := IntWalk.u64_in _ (by omega)
    go_wp2_with fail
    refine (nOf M (by omega) _).mono ?_
    rintro e u4 ⟨va, he, hXA, hbl⟩
    subst he
    have tB := HB.out.trans (hbl.mono HB.out.size)
    have tVU := VU.out.up hbl
    have tVD := VD.out.up hbl
    clear hbl HB VU VD
    have HB := Lib.hid tB
    clear tB
    have VU := Lib.hid tVU
    clear tVU
    have VD := Lib.hid tVD
    clear tVD
    have XA := Lib.hid hXA
    clear hXA
    go_wp2_with fail
    refine (nOf S (by omega) _).mono ?_
    rintro e u5 ⟨vb, he, hXB, hbl⟩
    subst he
    have tB := HB.out.trans (hbl.mono HB.out.size)
    have tVU := VU.out.up hbl
    have tVD := VD.out.up hbl
    have tXA := XA.out.up hbl
    clear hbl HB VU VD XA
    have HB := Lib.hid tB
    clear tB
    have VU := Lib.hid tVU
    clear tVU
    have VD := Lib.hid tVD
    clear tVD
    have XA := Lib.hid tXA
    clear tXA
    have XB := Lib.hid hXB
    clear hXB
    go_wp2_with fail
    refine (HB1.out _ _ _ _ _ VD.out XA.out VU.out XB.out).mono ?_
    rintro e u6 ⟨he, hbl⟩
    subst he
    have tB := HB.out.trans (hbl.mono HB.out.size)
    have tVU := VU.out.up hbl
    have tVD := VD.out.up hbl
    clear hbl HB VU VD XA XB
    have HB := Lib.hid tB
    clear tB
    have VU := Lib.hid tVU
    clear tVU
    have VD := Lib.hid tVD
    clear tVD
    clear HB1
    go_wp2_with fail
    refine (HO2.out _).mono ?_
    rintro e u7 ⟨va2, he, hXA, hbl⟩
    subst he
    have tB := HB.out.trans (hbl.mono HB.out.size)
    have tVU := VU.out.up hbl
    have tVD := VD.out.up hbl
    clear hbl HB VU VD
    have HB := Lib.hid tB
    clear tB
    have VU := Lib.hid tVU
    clear tVU
    have VD := Lib.hid tVD
    clear tVD
    have XA := Lib.hid hXA
    clear hXA
    go_wp2_with fail
    refine (nOf S (by omega) _).mono ?_
    rintro e u8 ⟨vb2, he, hXB, hbl⟩
    subst he
    have tB := HB.out.trans (hbl.mono HB.out.size)
    have tVU := VU.out.up hbl
    have tVD := VD.out.up hbl
    have tXA := XA.out.up hbl
    clear hbl HB VU VD XA
    have HB := Lib.hid tB
    clear tB
    have VU := Lib.hid tVU
    clear tVU
    have VD := Lib.hid tVD
    clear tVD
    have XA := Lib.hid tXA
    clear tXA
    have XB := Lib.hid hXB
    clear hXB
    go_wp2_with fail
    refine (HB2.out _ _ _ _ _ VD.out XA.out VU.out XB.out).mono ?_
    rintro e u9 ⟨he, hbl⟩
    subst he
    have tB := HB.out.trans (hbl.mono HB.out.size)
    clear hbl HB VU VD XA XB
    have HB := Lib.hid tB
    clear tB
    clear HB2 HO2 z2 z3 z4 z5
    rcases hbx with ⟨hM, rfl⟩ | ⟨rfl, rfl⟩
    case inl =>
      have hMI : (0 : Int) < (M : Int) := by omega
      cases bx
      all_goals
        go_wp2_with fail
        refine (HSZ.out _ HB.out).mono ?_
        rintro e u10 ⟨s2, he, hs2, hbl⟩
        subst he
        have tB := HB.out.trans (hbl.mono HB.out.size)
        clear hbl HB 
        have HB := Lib.hid tB
        clear tB
        have HS2 := Lib.hid hs2
        clear hs2
        have hsb : 0 ≤ s2 ∧ s2 ≤ 400000 := by
          rcases HS2.out with h | ⟨-, -, k2, h, h2, -⟩ <;> omega
        obtain ⟨Q, hQ⟩ : ∃ Q, s2 * (S : Int) = Q := ⟨_, rfl⟩
        have hQ1 : 0 ≤ Q ∧ Q ≤ 400000 * 1000000 := by
          rw [← hQ]
          exact ⟨Int.mul_nonneg hsb.1 (by omega), Int.mul_le_mul hsb.2 (by omega) (by omega) (by omega)⟩
        have eQ : IntKind.i64.wrap Q = Q := IntWalk.i64_in _ (by omega)
        by_cases hQ8 : 8000 < Q
        case pos =>
          clear HS2
          go_wp2_with fail
          refine (awake_any _ (HP.out.below HB.out)).mono ?_
          rintro e u11 ⟨he, hbl⟩
          subst he
          have HBZ := Lib.hid (HB.out.trans (hbl.mono HB.out.size))
          clear hbl
          go_wp2
          go_ret
          exact ⟨rfl, HBZ.out⟩
        obtain ⟨k2, hk2, hex2, hall2⟩ : ∃ k2 : Nat, s2 = (k2 : Int) ∧ (∀ x ∈ l, x.2.natAbs ≤ k2) ∧ allP (natT l) ≤ 2 ^ k2 := by
          rcases HS2.out with h | ⟨-, -, k2, h, -, h3, h4⟩
          · exfalso
            rw [h] at hQ
            omega
          · exact ⟨k2, h, h3, h4⟩
        subst hk2
        obtain ⟨E, hE⟩ : ∃ E : Nat, k2 * S = E := ⟨_, rfl⟩
        have hEQ : (E : Int) = Q := by rw [← hE, ← hQ, Int.natCast_mul]
        have hE8 : E ≤ 8000 := by omega
        have hxS : ∀ x ∈ l, x.2.natAbs * S ≤ E := fun x hx => by rw [← hE]; exact Nat.mul_le_mul_right _ (hex2 x hx)
        have hallS : allP (scL S (natT l)) ≤ 2 ^ E := by rw [allP_sc, ← hE]; exact pow_bd hall2
        have hps := posT HOK.out (S : Int)
        have hUS := Nat.le_trans (up_le_all hps) hallS
        have hDS := Nat.le_trans (dn_le_all hps) hallS
        have hp8 := pow_to (m := 8000) hallS hE8
        have hu8 := pow_to (m := 8000) hUS hE8
        have hd8 := pow_to (m := 8000) hDS hE8
        have hfar := fun z => two_far (z := z) hps hUS hDS
        have hfl := fun W (hW : Below w.heap.size w W) => Floor_any (.slice A n cap) (natT l) (k : Int) (S : Int) 20 W (HT.out W hW) (valid_sz HOK.out HN.out) (by omega) (by omega) (by omega) (by omega) (fun m h1 h2 => fl_sign HOK.out HN.out (fun x hx => Nat.le_trans (hxS x hx) hE8) (by omega) (by omega) h1 h2)
        have hpd2 := fun W (hW : Below w.heap.size w W) => products_any A n cap l S W (HV.out W hW) HN6.out HOK.out (by omega) (by omega) (fun x hx => Nat.le_trans (hxS x hx) hE8) hp8
        have hpw2 := fun (z : Int) (vn vd : Value) (W : World) (hn : Wd.Arg W vn (Wd.dg (upP (scL S (natT l))))) (hd : Wd.Arg W vd (Wd.dg (dnP (scL S (natT l))))) (hz : -8300 ≤ z ∧ z ≤ 8300) => powers_any z vn vd _ _ W hn hd hz hu8 hd8
        simp only [two_le, two_eq] at hpw2
        generalize upP (scL S (natT l)) = U2 at *
        generalize dnP (scL S (natT l)) = D2 at *
        have HFL := Lib.hid hfl
        have HPD2 := Lib.hid hpd2
        have HPW2 := Lib.hid hpw2
        have HFAR := Lib.hid hfar
        have HQ8 := Lib.hid hE8
        clear hfl hpd2 hpw2 hfar hUS hDS hps hallS hxS hex2 hall2 HS2 hE8 hE hQ1 hp8 hu8 hd8
        have s1 := eQ
        clear eQ
        go_wp2_with fail
        refine (HFL.out _ HB.out).mono ?_
        rintro e u11 ⟨hsp, hbl⟩
        have tB := HB.out.trans (hbl.mono HB.out.size)
        clear hbl HB HFL
        have HB := Lib.hid tB
        clear tB
        obtain ⟨m, m1, m2, m3, m4, he⟩ : ∃ m : Int, -1000000000000 ≤ m ∧ m ≤ 1000000000000 ∧ 0 ≤ sgnP (scL S (natT l) ++ [(2, -(m * (k : Int)))]) ∧ sgnP (scL S (natT l) ++ [(2, -((m + 1) * (k : Int)))]) < 0 ∧ e = .returned (.tuple #[.int .i64 m, .bool (sgnP (scL S (natT l) ++ [(2, -(m * (k : Int)))]) == 0), .int .i64 0]) := by
          rcases hsp with ⟨hc, -⟩ | ⟨-, m, h1, h2, h3, h4, h5⟩
          · exfalso
            have a1 := (HFAR.out (-1000000000000 * (k : Int))).1 (by have := HQ8.out; omega)
            have a2 := (HFAR.out (1000000000001 * (k : Int))).2 (by have := HQ8.out; omega)
            simp only at hc
            omega
          · exact ⟨m, h1, h2, h3, h4, h5⟩
        subst he
        clear hsp
        obtain ⟨z1, hz1⟩ : ∃ z, m * (k : Int) = z := ⟨_, rfl⟩
        obtain ⟨z2, hz2⟩ : ∃ z, (m + 1) * (k : Int) = z := ⟨_, rfl⟩
        rw [hz1] at m3 ⊢
        rw [hz2] at m4
        have hz3 : z2 = z1 + (k : Int) := by rw [← hz2, ← hz1, Int.add_mul, Int.one_mul]
        have b1 : z1 ≤ 8000 := by
          rcases Int.lt_or_le (E : Int) z1 with h | h
          · have := (HFAR.out z1).2 h; omega
          · have := HQ8.out; omega
        have b2 : -8000 < z2 := by
          rcases Int.lt_or_le (-(E : Int)) z2 with h | h
          · have := HQ8.out; omega
          · have := (HFAR.out z2).1 h; omega
        have v1 : m ≤ 8000 := by
          rcases Int.lt_or_le 8000 m with h | h
          · exfalso
            have := Int.mul_le_mul_of_nonneg_left (show (1 : Int) ≤ (k : Int) by omega) (show 0 ≤ m by omega)
            rw [hz1] at this; omega
          · exact h
        have v2 : -8000 ≤ m := by
          rcases Int.lt_or_le m (-8000) with h | h
          · exfalso
            have := Int.mul_le_mul_of_nonneg_right (show m + 1 ≤ -8000 by omega) (show 0 ≤ (k : Int) by omega)
            rw [hz2] at this; omega
          · exact h
        subst hz3
        have y1 : ¬ m < -8000 := by omega
        have y2 : ¬ 8000 < m := by omega
        have e1 : IntKind.i64.wrap z1 = z1 := IntWalk.i64_in _ (by omega)
        have e2 : IntKind.i64.wrap (z1 + (k : Int)) = z1 + (k : Int) := IntWalk.i64_in _ (by omega)
        have hpa := fun vn vd W hn hd => HPW2.out z1 vn vd W hn hd (by omega)
        have hpb := fun vn vd W hn hd => HPW2.out (z1 + (k : Int)) vn vd W hn hd (by omega)
        rw [decide_eq_true m3] at hpa
        rw [decide_eq_false (show ¬ 0 ≤ sgnP (scL S (natT l) ++ [(2, -(z1 + (k : Int)))]) by omega)] at hpb
        generalize (sgnP (scL S (natT l) ++ [(2, -z1)]) == 0) = bb at *
        generalize (sgnP (scL S (natT l) ++ [(2, -(z1 + (k : Int)))]) == 0) = bc at *
        have HPA := Lib.hid hpa
        have HPB := Lib.hid hpb
        clear hpa hpb HPW2 HFAR m3 m4
        go_wp2_with fail
        refine (HPD2.out _ HB.out).mono ?_
        rintro e u12 ⟨vu, vd, he, hVU, hVD, hbl⟩
        subst he
        have tB := HB.out.trans (hbl.mono HB.out.size)
        clear hbl HB 
        have HB := Lib.hid tB
        clear tB
        have VU := Lib.hid hVU
        clear hVU
        have VD := Lib.hid hVD
        clear hVD
        go_wp2_with fail
        refine (HPA.out _ _ _ VU.out VD.out).mono ?_
        rintro e u13 ⟨he, hbl⟩
        subst he
        have tB := HB.out.trans (hbl.mono HB.out.size)
        have tVU := VU.out.up hbl
        have tVD := VD.out.up hbl
        clear hbl HB VU VD
        have HB := Lib.hid tB
        clear tB
        have VU := Lib.hid tVU
        clear tVU
        have VD := Lib.hid tVD
        clear tVD
        go_wp2_with fail
        refine (HPB.out _ _ _ VU.out VD.out).mono ?_
        rintro e u14 ⟨he, hbl⟩
        subst he
        have tB := HB.out.trans (hbl.mono HB.out.size)
        clear hbl HB VU VD
        have HB := Lib.hid tB
        clear tB
        cases bb
        all_goals
          go_wp2_with fail
          refine (awake_any _ (HP.out.below HB.out)).mono ?_
          rintro e u15 ⟨he, hbl⟩
          subst he
          have HBZ := Lib.hid (HB.out.trans (hbl.mono HB.out.size))
          clear hbl
          go_wp2
          go_ret
          exact ⟨rfl, HBZ.out⟩
    case inr =>
      cases b
      all_goals
        go_wp2_with fail
        refine (HSZ.out _ HB.out).mono ?_
        rintro e u10 ⟨s2, he, hs2, hbl⟩
        subst he
        have tB := HB.out.trans (hbl.mono HB.out.size)
        clear hbl HB 
        have HB := Lib.hid tB
        clear tB
        have HS2 := Lib.hid hs2
        clear hs2
        have hsb : 0 ≤ s2 ∧ s2 ≤ 400000 := by
          rcases HS2.out with h | ⟨-, -, k2, h, h2, -⟩ <;> omega
        obtain ⟨Q, hQ⟩ : ∃ Q, s2 * (S : Int) = Q := ⟨_, rfl⟩
        have hQ1 : 0 ≤ Q ∧ Q ≤ 400000 * 1000000 := by
          rw [← hQ]
          exact ⟨Int.mul_nonneg hsb.1 (by omega), Int.mul_le_mul hsb.2 (by omega) (by omega) (by omega)⟩
        have eQ : IntKind.i64.wrap Q = Q := IntWalk.i64_in _ (by omega)
        by_cases hQ8 : 8000 < Q
        case pos =>
          clear HS2
          go_wp2_with fail
          refine (awake_any _ (HP.out.below HB.out)).mono ?_
          rintro e u11 ⟨he, hbl⟩
          subst he
          have HBZ := Lib.hid (HB.out.trans (hbl.mono HB.out.size))
          clear hbl
          go_wp2
          go_ret
          exact ⟨rfl, HBZ.out⟩
        obtain ⟨k2, hk2, hex2, hall2⟩ : ∃ k2 : Nat, s2 = (k2 : Int) ∧ (∀ x ∈ l, x.2.natAbs ≤ k2) ∧ allP (natT l) ≤ 2 ^ k2 := by
          rcases HS2.out with h | ⟨-, -, k2, h, -, h3, h4⟩
          · exfalso
            rw [h] at hQ
            omega
          · exact ⟨k2, h, h3, h4⟩
        subst hk2
        obtain ⟨E, hE⟩ : ∃ E : Nat, k2 * S = E := ⟨_, rfl⟩
        have hEQ : (E : Int) = Q := by rw [← hE, ← hQ, Int.natCast_mul]
        have hE8 : E ≤ 8000 := by omega
        have hxS : ∀ x ∈ l, x.2.natAbs * S ≤ E := fun x hx => by rw [← hE]; exact Nat.mul_le_mul_right _ (hex2 x hx)
        have hallS : allP (scL S (natT l)) ≤ 2 ^ E := by rw [allP_sc, ← hE]; exact pow_bd hall2
        have hps := posT HOK.out (S : Int)
        have hUS := Nat.le_trans (up_le_all hps) hallS
        have hDS := Nat.le_trans (dn_le_all hps) hallS
        have hp8 := pow_to (m := 8000) hallS hE8
        have hu8 := pow_to (m := 8000) hUS hE8
        have hd8 := pow_to (m := 8000) hDS hE8
        have hfar := fun z => two_far (z := z) hps hUS hDS
        have hfl := fun W (hW : Below w.heap.size w W) => Floor_any (.slice A n cap) (natT l) (k : Int) (S : Int) 20 W (HT.out W hW) (valid_sz HOK.out HN.out) (by omega) (by omega) (by omega) (by omega) (fun m h1 h2 => fl_sign HOK.out HN.out (fun x hx => Nat.le_trans (hxS x hx) hE8) (by omega) (by omega) h1 h2)
        have hpd2 := fun W (hW : Below w.heap.size w W) => products_any A n cap l S W (HV.out W hW) HN6.out HOK.out (by omega) (by omega) (fun x hx => Nat.le_trans (hxS x hx) hE8) hp8
        have hpw2 := fun (z : Int) (vn vd : Value) (W : World) (hn : Wd.Arg W vn (Wd.dg (upP (scL S (natT l))))) (hd : Wd.Arg W vd (Wd.dg (dnP (scL S (natT l))))) (hz : -8300 ≤ z ∧ z ≤ 8300) => powers_any z vn vd _ _ W hn hd hz hu8 hd8
        simp only [two_le, two_eq] at hpw2
        generalize upP (scL S (natT l)) = U2 at *
        generalize dnP (scL S (natT l)) = D2 at *
        have HFL := Lib.hid hfl
        have HPD2 := Lib.hid hpd2
        have HPW2 := Lib.hid hpw2
        have HFAR := Lib.hid hfar
        have HQ8 := Lib.hid hE8
        clear hfl hpd2 hpw2 hfar hUS hDS hps hallS hxS hex2 hall2 HS2 hE8 hE hQ1 hp8 hu8 hd8
        have s1 := eQ
        clear eQ
        go_wp2_with fail
        refine (HFL.out _ HB.out).mono ?_
        rintro e u11 ⟨hsp, hbl⟩
        have tB := HB.out.trans (hbl.mono HB.out.size)
        clear hbl HB HFL
        have HB := Lib.hid tB
        clear tB
        obtain ⟨m, m1, m2, m3, m4, he⟩ : ∃ m : Int, -1000000000000 ≤ m ∧ m ≤ 1000000000000 ∧ 0 ≤ sgnP (scL S (natT l) ++ [(2, -(m * (k : Int)))]) ∧ sgnP (scL S (natT l) ++ [(2, -((m + 1) * (k : Int)))]) < 0 ∧ e = .returned (.tuple #[.int .i64 m, .bool (sgnP (scL S (natT l) ++ [(2, -(m * (k : Int)))]) == 0), .int .i64 0]) := by
          rcases hsp with ⟨hc, -⟩ | ⟨-, m, h1, h2, h3, h4, h5⟩
          · exfalso
            have a1 := (HFAR.out (-1000000000000 * (k : Int))).1 (by have := HQ8.out; omega)
            have a2 := (HFAR.out (1000000000001 * (k : Int))).2 (by have := HQ8.out; omega)
            simp only at hc
            omega
          · exact ⟨m, h1, h2, h3, h4, h5⟩
        subst he
        clear hsp
        obtain ⟨z1, hz1⟩ : ∃ z, m * (k : Int) = z := ⟨_, rfl⟩
        obtain ⟨z2, hz2⟩ : ∃ z, (m + 1) * (k : Int) = z := ⟨_, rfl⟩
        rw [hz1] at m3 ⊢
        rw [hz2] at m4
        have hz3 : z2 = z1 + (k : Int) := by rw [← hz2, ← hz1, Int.add_mul, Int.one_mul]
        have b1 : z1 ≤ 8000 := by
          rcases Int.lt_or_le (E : Int) z1 with h | h
          · have := (HFAR.out z1).2 h; omega
          · have := HQ8.out; omega
        have b2 : -8000 < z2 := by
          rcases Int.lt_or_le (-(E : Int)) z2 with h | h
          · have := HQ8.out; omega
          · have := (HFAR.out z2).1 h; omega
        have v1 : m ≤ 8000 := by
          rcases Int.lt_or_le 8000 m with h | h
          · exfalso
            have := Int.mul_le_mul_of_nonneg_left (show (1 : Int) ≤ (k : Int) by omega) (show 0 ≤ m by omega)
            rw [hz1] at this; omega
          · exact h
        have v2 : -8000 ≤ m := by
          rcases Int.lt_or_le m (-8000) with h | h
          · exfalso
            have := Int.mul_le_mul_of_nonneg_right (show m + 1 ≤ -8000 by omega) (show 0 ≤ (k : Int) by omega)
            rw [hz2] at this; omega
          · exact h
        subst hz3
        have y1 : ¬ m < -8000 := by omega
        have y2 : ¬ 8000 < m := by omega
        have e1 : IntKind.i64.wrap z1 = z1 := IntWalk.i64_in _ (by omega)
        have e2 : IntKind.i64.wrap (z1 + (k : Int)) = z1 + (k : Int) := IntWalk.i64_in _ (by omega)
        have hpa := fun vn vd W hn hd => HPW2.out z1 vn vd W hn hd (by omega)
        have hpb := fun vn vd W hn hd => HPW2.out (z1 + (k : Int)) vn vd W hn hd (by omega)
        rw [decide_eq_true m3] at hpa
        rw [decide_eq_false (show ¬ 0 ≤ sgnP (scL S (natT l) ++ [(2, -(z1 + (k : Int)))]) by omega)] at hpb
        generalize (sgnP (scL S (natT l) ++ [(2, -z1)]) == 0) = bb at *
        generalize (sgnP (scL S (natT l) ++ [(2, -(z1 + (k : Int)))]) == 0) = bc at *
        have HPA := Lib.hid hpa
        have HPB := Lib.hid hpb
        clear hpa hpb HPW2 HFAR m3 m4
        go_wp2_with fail
        refine (HPD2.out _ HB.out).mono ?_
        rintro e u12 ⟨vu, vd, he, hVU, hVD, hbl⟩
        subst he
        have tB := HB.out.trans (hbl.mono HB.out.size)
        clear hbl HB 
        have HB := Lib.hid tB
        clear tB
        have VU := Lib.hid hVU
        clear hVU
        have VD := Lib.hid hVD
        clear hVD
        go_wp2_with fail
        refine (HPA.out _ _ _ VU.out VD.out).mono ?_
        rintro e u13 ⟨he, hbl⟩
        subst he
        have tB := HB.out.trans (hbl.mono HB.out.size)
        have tVU := VU.out.up hbl
        have tVD := VD.out.up hbl
        clear hbl HB VU VD
        have HB := Lib.hid tB
        clear tB
        have VU := Lib.hid tVU
        clear tVU
        have VD := Lib.hid tVD
        clear tVD
        go_wp2_with fail
        refine (HPB.out _ _ _ VU.out VD.out).mono ?_
        rintro e u14 ⟨he, hbl⟩
        subst he
        have tB := HB.out.trans (hbl.mono HB.out.size)
        clear hbl HB VU VD
        have HB := Lib.hid tB
        clear tB
        cases bb
        all_goals
          go_wp2_with fail
          refine (awake_any _ (HP.out.below HB.out)).mono ?_
          rintro e u15 ⟨he, hbl⟩
          subst he
          have HBZ := Lib.hid (HB.out.trans (hbl.mono HB.out.size))
          clear hbl
          go_wp2
          go_ret
          exact ⟨rfl, HBZ.out⟩
end Go.Proofs.YtokkcmadgcdpiaaDoor
