import Derived.Test.YtlababdfdjjjaaaGreatDoorYRE
namespace Go.Proofs.YtlababdfdjjjaaaGreatDoor
open Go.RowKit

/-! The reference's power. -/
def RPw (w : World) (m k : Nat) (e : Ending) (w' : World) : Prop :=
  ∃ (A : Option Addr) (n c : Nat), e = .returned (.tuple #[.slice A n c, .bool (decide ((dg (m ^ k)).length ≤ 512))]) ∧ Num w' w'.heap.size (.slice A n c) (if (dg (m ^ k)).length ≤ 512 then m ^ k else 0) ∧ Below w.heap.size w w'
def PwRel (w : World) (m K : Nat) (o i : Value) (wr : World) : Prop :=
  ∃ (j : Nat) (A : Option Addr) (n c : Nat), j ≤ K ∧ i = .int .i64 (j : Int) ∧ o = .slice A n c ∧ Num wr wr.heap.size (.slice A n c) (m ^ j) ∧ (dg (m ^ j)).length ≤ 512 ∧ Below w.heap.size w wr
theorem pow_small {m k : Nat} (hm : m ≤ 1) : m ^ (min k 1) = m ^ k := by
  rcases Nat.eq_zero_or_pos k with h | h
  · rw [h]; rfl
  · rw [Nat.min_eq_right h, Nat.pow_one]
    have h1 : m = 0 ∨ m = 1 := by omega
    rcases h1 with rfl | rfl
    · rw [Nat.zero_pow h]
    · rw [Nat.one_pow]
theorem times_forms {va vb : Value} {m n : Nat} {W : World} (ha : Num W W.heap.size va m) (hb : Num W W.heap.size vb n) (h1 : (dg m).length ≤ 1000000) (h2 : (dg n).length ≤ 1000000) :
    Calls Tryz.prog 87 #[va, vb] W fun e w' => ∃ A c, e = .returned (.slice A (dg (m * n)).length c) ∧ Num w' w'.heap.size (.slice A (dg (m * n)).length c) (m * n) ∧ Below W.heap.size W w' :=
  (rtimes_num ha hb h1 h2).mono fun e w' ⟨v, he, hn, hb⟩ => by
    obtain ⟨A, c, rfl, -⟩ := hn.form
    exact ⟨A, c, he, hn, hb⟩

theorem of_one_forms (W : World) : Calls Tryz.prog 22 #[.int .u64 1] W fun e w' => ∃ A n c, e = .returned (.slice A n c) ∧ Num w' w'.heap.size (.slice A n c) 1 ∧ Below W.heap.size W w' :=
  (rone_any W).mono fun e w' ⟨v, he, hn, hb, _⟩ => by
    obtain ⟨A, c, rfl, -⟩ := hn.form
    exact ⟨A, _, c, he, hn, hb⟩
theorem pow_len_mono {m i k : Nat} (hm : 0 < m) (h : i ≤ k) : (dg (m ^ i)).length ≤ (dg (m ^ k)).length := dg_mono (Nat.pow_le_pow_right hm h)

set_option maxRecDepth 100000 in
set_option maxHeartbeats 2000000 in
theorem rpower_any (va : Value) (m k : Nat) (w : World) (ha : Num w w.heap.size va m) (hla : (dg m).length ≤ 512) (hk : k ≤ 100000) :
    Calls Tryz.prog 103 #[va, .int .i64 (k : Int)] w (RPw w m k) := by
  have hone := fun W => of_one_forms W
  have HONE := Lib.hid hone
  clear hone
  obtain ⟨A, capa, rfl, -⟩ := ha.form
  have hord := fun W v (hb : Below w.heap.size w W) (hv : Num W W.heap.size v 1) => rorder_num (ha.up hb) hv (by omega) (by rw [len_one]; omega)
  have htm := fun W v j (hb : Below w.heap.size w W) (hv : Num W W.heap.size v (m ^ j)) (hl : (dg (m ^ j)).length ≤ 512) => times_forms hv (ha.up hb) (by omega) (by omega)
  have HORD := Lib.hid hord
  have HTM := Lib.hid htm
  clear hord htm ha hla
  generalize (dg m).length = la at *
  have k0 : (0 : Int) ≤ (k : Int) := Int.natCast_nonneg _
  have kb : k < 4294967296 := by omega
  have HLOOP : ∀ (P : Nat → Prop), True := fun _ => trivial
  clear HLOOP
  by_cases hm : m ≤ 1
  · have hc : cmpI m 1 ≤ 0 := by unfold cmpI; repeat' split
                                 all_goals omega
    obtain ⟨c, hcc⟩ : ∃ c, c = cmpI m 1 := ⟨_, rfl⟩
    rw [← hcc] at hc HORD
    obtain ⟨K, hK⟩ : ∃ K, K = min k 1 := ⟨_, rfl⟩
    have hKi : min (k : Int) 1 = (K : Int) := by rw [hK]; omega
    have hpow : m ^ k = m ^ K := by rw [hK, pow_small hm]
    have hlen : (dg (m ^ K)).length ≤ 512 := by
      have : m ^ K ≤ 1 := by
        have := Nat.pow_le_pow_left hm K
        rw [Nat.one_pow] at this; exact this
      have := dg_mono this
      rw [len_one] at this
      omega
    have hK1 : K ≤ 1 := by omega
    have HP := Lib.hid hpow
    have HL := Lib.hid hlen
    have HM1 := Lib.hid hm
    clear hcc hpow hlen hK hm
    go_enter Tryz.func103, Tryz.ntmps103
    go_wp2_with fail
    refine (HONE.out w).mono ?_
    rintro e w1 ⟨B, n1, c1, he, hn1, hb1⟩
    subst he
    go_wp2_with fail
    refine (HORD.out w1 _ hb1 hn1).mono ?_
    rintro e w2 ⟨he, rfl⟩
    subst he
    go_wp2_with fail
    go_loopw [6, 7] (fun o i wr => PwRel w m K o i wr) (fun _ i _ => K - (intOf i).toNat)
    case atStart => exact ⟨0, B, n1, c1, Nat.zero_le _, rfl, rfl, by rw [Nat.pow_zero]; exact hn1, by rw [Nat.pow_zero, len_one]; omega, hb1⟩
    case round =>
      obtain ⟨j, A1, n, c1, hj, rfl, rfl, hnum, hl, hb⟩ := hrel
      have j0 : (0 : Int) ≤ (j : Int) := Int.natCast_nonneg _
      by_cases hlt : j < K
      · have hcall := Lib.hid (HTM.out wr _ j hb hnum hl)
        have hjK : (j : Int) < (K : Int) := by omega
        have hlen1 : (dg (m ^ j * m)).length ≤ 512 := by
          rw [show m ^ j * m = m ^ (j + 1) from (Nat.pow_succ ..).symm]
          have h1 : m ^ (j + 1) ≤ 1 := by
            have := Nat.pow_le_pow_left HM1.out (j + 1)
            rw [Nat.one_pow] at this; exact this
          have := dg_mono h1
          rw [len_one] at this
          omega
        have HL1 := Lib.hid hlen1
        have HB := Lib.hid hb
        clear hlen1 hl hnum hb
        go_wp2_with fail
        refine hcall.out.mono ?_
        rintro e w3 ⟨A2, c2, he, hn2, hb2⟩
        subst he
        have HN2 := Lib.hid hn2
        have HB2 := Lib.hid (HB.out.trans (hb2.mono HB.out.size))
        clear hn2 hb2
        obtain ⟨ln, hln⟩ : ∃ ln, ln = (dg (m ^ j * m)).length := ⟨_, rfl⟩
        have HLN := Lib.hid hln
        have hno : ¬ (512 : Int) < (ln : Int) := by have := HL1.out; omega
        rw [← hln] at HN2 ⊢
        clear hln
        go_wp2_with fail
        go_roundw
        case rel => exact ⟨j + 1, A2, ln, c2, by omega, by go_num, rfl, by rw [Nat.pow_succ]; exact HN2.out, by rw [Nat.pow_succ, ← HLN.out]; omega, HB2.out⟩
        case measure => simp [intOf]; omega
      · obtain rfl : j = K := by omega
        have HN := Lib.hid hnum
        have HB := Lib.hid hb
        clear hnum hb hl
        go_wp2_with fail
        go_ret2
        refine ⟨A1, n, c1, by rw [HP.out, decide_eq_true HL.out]; rfl, ?_, HB.out⟩
        rw [HP.out, if_pos HL.out]
        exact HN.out
  · have hc : ¬ cmpI m 1 ≤ 0 := by unfold cmpI; repeat' split
                                   all_goals omega
    obtain ⟨c, hcc⟩ : ∃ c, c = cmpI m 1 := ⟨_, rfl⟩
    rw [← hcc] at hc HORD
    have HM := Lib.hid (show 0 < m by omega)
    clear hcc hm
    go_enter Tryz.func103, Tryz.ntmps103
    go_wp2_with fail
    refine (HONE.out w).mono ?_
    rintro e w1 ⟨B, n1, c1, he, hn1, hb1⟩
    subst he
    go_wp2_with fail
    refine (HORD.out w1 _ hb1 hn1).mono ?_
    rintro e w2 ⟨he, rfl⟩
    subst he
    go_wp2_with fail
    go_loopw [6, 7] (fun o i wr => PwRel w m k o i wr) (fun _ i _ => k - (intOf i).toNat)
    case atStart => exact ⟨0, B, n1, c1, Nat.zero_le _, rfl, rfl, by rw [Nat.pow_zero]; exact hn1, by rw [Nat.pow_zero, len_one]; omega, hb1⟩
    case round =>
      obtain ⟨j, A1, n, c1, hj, rfl, rfl, hnum, hl, hb⟩ := hrel
      have j0 : (0 : Int) ≤ (j : Int) := Int.natCast_nonneg _
      by_cases hlt : j < k
      · have hcall := Lib.hid (HTM.out wr _ j hb hnum hl)
        have hjK : (j : Int) < (k : Int) := by omega
        have hmono := pow_len_mono HM.out hlt
        rw [Nat.pow_succ] at hmono
        have HMO := Lib.hid hmono
        have HB := Lib.hid hb
        clear hmono hl hnum hb
        go_wp2_with fail
        refine hcall.out.mono ?_
        rintro e w3 ⟨A2, c2, he, hn2, hb2⟩
        subst he
        have HN2 := Lib.hid hn2
        have HB2 := Lib.hid (HB.out.trans (hb2.mono HB.out.size))
        clear hn2 hb2
        have hln : ∃ ln, ln = (dg (m ^ j * m)).length := ⟨_, rfl⟩
        obtain ⟨ln, hln⟩ := hln
        have HLN := Lib.hid hln
        rw [← hln] at HN2 ⊢
        clear hln
        by_cases hbig : 512 < ln
        · have hbi : (512 : Int) < (ln : Int) := by omega
          go_wp2_with fail
          go_ret2
          have hno : ¬ (dg (m ^ k)).length ≤ 512 := by have := HMO.out; have := HLN.out; omega
          refine ⟨none, 0, 0, by rw [decide_eq_false hno]; rfl, ?_, HB2.out⟩
          rw [if_neg hno]
          exact Num.zero _ _
        · have hbi : ¬ (512 : Int) < (ln : Int) := by omega
          go_wp2_with fail
          go_roundw
          case rel => exact ⟨j + 1, A2, ln, c2, by omega, by go_num, rfl, by rw [Nat.pow_succ]; exact HN2.out, by rw [Nat.pow_succ, ← HLN.out]; omega, HB2.out⟩
          case measure => simp [intOf]; omega
      · obtain rfl : j = k := by omega
        have HN := Lib.hid hnum
        have HL := Lib.hid hl
        have HB := Lib.hid hb
        clear hnum hb hl
        go_wp2_with fail
        go_ret2
        refine ⟨A1, n, c1, by rw [decide_eq_true HL.out]; rfl, ?_, HB.out⟩
        rw [if_pos HL.out]
        exact HN.out
end Go.Proofs.YtlababdfdjjjaaaGreatDoor
namespace Go.Proofs.YtlababdfdjjjaaaGreatDoor
open Go.RowKit

/-! The reference's power of a fraction, where it fits. -/
structure PQr (w : World) (neg : Bool) (vn vd : Value) (W : World) : Prop where
  qa : QB W w.heap.size neg vn vd
  qr : QB W (w.heap.size + 1) false (.slice none 0 0) (.slice none 0 0)
  bl : Below w.heap.size w W
theorem PQr.below {w W W' : World} {neg : Bool} {vn vd : Value} (h : PQr w neg vn vd W) (hb : Below W.heap.size W W') : PQr w neg vn vd W' := ⟨h.qa.below hb h.qa.lt, h.qr.below hb h.qr.lt, h.bl.trans (hb.mono h.bl.size)⟩
theorem PQr.drew {w W : World} {neg : Bool} {vn vd : Value} (h : PQr w neg vn vd W) : PQr w neg vn vd W.drew := ⟨h.qa, h.qr, h.bl.drew⟩
theorem pqr_start (w : World) (neg : Bool) (vn vd : Value) : PQr w neg vn vd ((w.alloc (.cells #[.bool neg, vn, vd] 48)).alloc (.cells #[.bool false, .slice none 0 0, .slice none 0 0] 48)) := by
  have b1 : Below w.heap.size w (w.alloc (.cells #[.bool neg, vn, vd] 48)) := (Below.refl _ w).alloc (Nat.le_refl _) _
  have q1 := QB.new w neg vn vd
  have q2 := QB.new (w.alloc (.cells #[.bool neg, vn, vd] 48)) false (.slice none 0 0) (.slice none 0 0)
  rw [World.size_alloc] at q2
  exact ⟨q1.below ((Below.refl _ _).alloc (Nat.le_refl _) _) q1.lt, q2, b1.alloc (by simp) _⟩
theorem rpower_fits {va : Value} {m k : Nat} {w : World} (ha : Num w w.heap.size va m) (hla : (dg m).length ≤ 512) (hk : k ≤ 100000) (hl : (dg (m ^ k)).length ≤ 512) :
    Calls Tryz.prog 103 #[va, .int .i64 (k : Int)] w fun e w' => ∃ (A : Option Addr) (n c : Nat), e = .returned (.tuple #[.slice A n c, .bool true]) ∧ Num w' w'.heap.size (.slice A n c) (m ^ k) ∧ Below w.heap.size w w' := by
  refine (rpower_any va m k w ha hla hk).mono fun e w' ⟨A, n, c, he, hn, hb⟩ => ⟨A, n, c, ?_, ?_, hb⟩
  · rw [decide_eq_true hl] at he; exact he
  · rw [if_pos hl] at hn; exact hn

set_option maxRecDepth 100000 in
set_option maxHeartbeats 4000000 in
theorem rQPow_any (f : Fr) (vn vd : Value) (k : Nat) (w : World) (h1 : FrV w f vn vd) (hx : examQW [f] = 0) (hk : k ≤ 2000) (hl1 : (dg (val f.num ^ k)).length ≤ 512) (hl2 : (dg (val f.den ^ k)).length ≤ 512) :
    Calls Tryz.prog 67 #[.agg #[.bool f.neg, vn, vd], .int .i64 (k : Int)] w (ResF w (lowW (f.neg && decide (k % 2 = 1)) (val f.num ^ k) (val f.den ^ k))) := by
  have hP := pqr_start w f.neg vn vd
  obtain ⟨W, hW⟩ : ∃ W, W = ((w.alloc (.cells #[.bool f.neg, vn, vd] 48)).alloc (.cells #[.bool false, .slice none 0 0, .slice none 0 0] 48)) := ⟨_, rfl⟩
  rw [← hW] at hP
  have hsz : W.heap.size = w.heap.size + 1 + 1 := by rw [hW]; simp
  have hex := rexQ1 f vn vd W (h1.up hP.bl)
  have hbA : Below W.heap.size W (W.alloc (.cells #[.bool f.neg, vn, vd] 48)) := (Below.refl _ _).alloc (Nat.le_refl _) _
  have hSA := hP.below hbA
  have hszA : (W.alloc (.cells #[.bool f.neg, vn, vd] 48)).heap.size = w.heap.size + 1 + 1 + 1 := by rw [World.size_alloc, hsz]
  rw [hsz] at hex
  replace hex := hex.mono (fun e w' (h : e = .returned (.int .i64 (examQW [f])) ∧ _) => (⟨h.1, hSA.below (by rw [hszA]; exact h.2)⟩ : e = .returned (.int .i64 (examQW [f])) ∧ PQr w f.neg vn vd w'))
  rw [hx] at hex
  have hok := fun W' (hW' : Below w.heap.size w W') => (h1.up hW').ok (examQW_ok hx f (by simp))
  have hp1 : ∀ W', Below w.heap.size w W' → _ := fun W' hW' => rpower_fits (hok W' hW').1 (hok W' hW').2.2.2.1 (by omega) hl1
  have hp2 : ∀ W', Below w.heap.size w W' → _ := fun W' hW' => rpower_fits (hok W' hW').2.1 (hok W' hW').2.2.2.2 (by omega) hl2
  have hden : val f.den ^ k ≠ 0 := Nat.pos_iff_ne_zero.1 (Nat.pow_pos (by have := (hok w (Below.refl _ _)).2.2.1; omega))
  have hlo := fun W' u v (hu : Num W' W'.heap.size u (val f.num ^ k)) (hv : Num W' W'.heap.size v (val f.den ^ k)) => rlow_num (W := W') (f.neg && decide (k % 2 = 1)) hu hv hden (by omega) (by omega)
  have c0 := hP.qa.c0
  have c1 := hP.qa.c1
  have c2 := hP.qa.c2
  obtain ⟨A1, e1, rfl, -⟩ := h1.1.1.form
  obtain ⟨A2, e2, rfl, -⟩ := h1.2.1.form
  have HEX := Lib.hid hex
  have HP1 := Lib.hid hp1
  have HP2 := Lib.hid hp2
  have HLO := Lib.hid hlo
  clear hex hp1 hp2 hlo hok hbA hSA hszA hsz hP h1 hx hl1 hl2 hden
  generalize lowW (f.neg && decide (k % 2 = 1)) (val f.num ^ k) (val f.den ^ k) = fr at *
  generalize val f.num ^ k = x at *
  generalize val f.den ^ k = y at *
  obtain ⟨sg, hsg⟩ : ∃ sg, sg = (f.neg && decide (k % 2 = 1)) := ⟨_, rfl⟩
  rw [← hsg] at HLO
  generalize f.neg = s1 at *
  generalize f.num.length = l1 at *
  generalize f.den.length = l2 at *
  have k0 : (0 : Int) ≤ (k : Int) := Int.natCast_nonneg _
  have kb : k < 4294967296 := by omega
  have hk1 : (k : Int) ≤ 2000 := by omega
  have hk2 : (-2000 : Int) ≤ (k : Int) := by omega
  have hmax : max (k : Int) (-(k : Int)) = (k : Int) := by omega
  have hwr : IntKind.i64.wrap (-(k : Int)) = -(k : Int) := IntWalk.i64_in _ (by omega)
  obtain ⟨rs, rm, rn, re⟩ := fr
  subst hW
  cases s1
  · obtain rfl : sg = false := by rw [hsg]; rfl
    clear hsg
    go_enter Tryz.func67, Tryz.ntmps67
    go_wp2_with fail
    refine HEX.out.mono ?_
    rintro e w2 ⟨he, hP2⟩
    subst he
    have x0 := hP2.qa.c0
    have x1 := hP2.qa.c1
    have x2 := hP2.qa.c2
    go_wp2_with fail
    go_region_held3 (fun w' => w'.cell? ⟨w.heap.size, 1, none⟩ = some (.slice A1 l1 e1) ∧ w'.cell? ⟨w.heap.size, 2, none⟩ = some (.slice A2 l2 e2))
      (refine ⟨?_, ?_⟩ <;> first | with_reducible assumption | go_keep)
      (fail)
    have hP3 := hP2.drew
    clear hP2 x0 x1 x2
    generalize w2.drew = w3 at *
    go_wp2_with fail
    refine (HP1.out w3 hP3.bl).mono ?_
    rintro e w4 ⟨A3, n3, c3, he, hn4, hb4⟩
    subst he
    have hP4 := hP3.below hb4
    go_wp2_with fail
    refine (HP2.out w4 hP4.bl).mono ?_
    rintro e w5 ⟨A5, n5, c5, he, hn5, hb5⟩
    subst he
    have hP5 := hP4.below hb5
    have hn45 := hn4.up hb5
    have y0 := hP5.qa.c0
    have hcall := Lib.hid (HLO.out w5 _ _ hn45 hn5)
    have HP5 := Lib.hid hP5
    clear hP3 hP4 hP5 hn4 hn5 hn45 hb4 hb5
    go_wp2_with fail
    refine hcall.out.mono ?_
    rintro e w6 ⟨Bn, ln, cn, Bd, ld, cd, he, hvn, hvd, hb6⟩
    subst he
    have hP6 := HP5.out.below hb6
    have r0 := hP6.qr.c0
    have r1 := hP6.qr.c1
    have r2 := hP6.qr.c2
    have r3 := hP6.qr.fr 0
    have r4 := hP6.qr.fr 1
    have r5 := hP6.qr.fr 2
    go_wp2_with fail
    change bodyPost _ _ _ Exit.ret _ (wroteQ w6 (w.heap.size + 1) rs (.slice Bn ln cn) (.slice Bd ld cd))
    have g1 := hP6.qr.write rs (.slice Bn ln cn) (.slice Bd ld cd)
    have g2 : Num (wroteQ w6 (w.heap.size + 1) rs (.slice Bn ln cn) (.slice Bd ld cd)) w6.heap.size (.slice Bn ln cn) rm := Lim.wroteQ hvn hP6.qr rs _ _
    have g3 : Num (wroteQ w6 (w.heap.size + 1) rs (.slice Bn ln cn) (.slice Bd ld cd)) w6.heap.size (.slice Bd ld cd) rn := Lim.wroteQ hvd hP6.qr rs _ _
    have g4 := wroteQ_below hP6.bl (show w.heap.size ≤ w.heap.size + 1 by omega) rs (.slice Bn ln cn) (.slice Bd ld cd)
    have g5 : w6.heap.size ≤ (wroteQ w6 (w.heap.size + 1) rs (.slice Bn ln cn) (.slice Bd ld cd)).heap.size := by simp [wroteQ, World.setCell]
    generalize wroteQ w6 (w.heap.size + 1) rs (.slice Bn ln cn) (.slice Bd ld cd) = W9 at g1 g2 g3 g4 g5 ⊢
    have z0 := g1.c0
    have z1 := g1.c1
    have z2 := g1.c2
    refine bodyPost_ret (v := .tuple #[.agg #[.bool rs, .slice Bn ln cn, .slice Bd ld cd], .int .i64 re]) ?_ rfl ⟨Bn, ln, cn, Bd, ld, cd, rfl, Lim.more g2 g5, Lim.more g3 g5, g4⟩
    simp [results, Tryz.results67, z0, z1, z2, go_sem]
  · by_cases hodd : k % 2 = 1
    · obtain rfl : sg = true := by rw [hsg, decide_eq_true hodd]; rfl
      have hp : (k : Int) % 2 = 1 := by omega
      clear hsg hodd
      go_enter Tryz.func67, Tryz.ntmps67
      go_wp2_with fail
      refine HEX.out.mono ?_
      rintro e w2 ⟨he, hP2⟩
      subst he
      have x0 := hP2.qa.c0
      have x1 := hP2.qa.c1
      have x2 := hP2.qa.c2
      go_wp2_with fail
      go_region_held3 (fun w' => w'.cell? ⟨w.heap.size, 1, none⟩ = some (.slice A1 l1 e1) ∧ w'.cell? ⟨w.heap.size, 2, none⟩ = some (.slice A2 l2 e2))
        (refine ⟨?_, ?_⟩ <;> first | with_reducible assumption | go_keep)
        (fail)
      have hP3 := hP2.drew
      clear hP2 x0 x1 x2
      generalize w2.drew = w3 at *
      go_wp2_with fail
      refine (HP1.out w3 hP3.bl).mono ?_
      rintro e w4 ⟨A3, n3, c3, he, hn4, hb4⟩
      subst he
      have hP4 := hP3.below hb4
      go_wp2_with fail
      refine (HP2.out w4 hP4.bl).mono ?_
      rintro e w5 ⟨A5, n5, c5, he, hn5, hb5⟩
      subst he
      have hP5 := hP4.below hb5
      have hn45 := hn4.up hb5
      have y0 := hP5.qa.c0
      have hcall := Lib.hid (HLO.out w5 _ _ hn45 hn5)
      have HP5 := Lib.hid hP5
      clear hP3 hP4 hP5 hn4 hn5 hn45 hb4 hb5
      go_wp2_with fail
      refine hcall.out.mono ?_
      rintro e w6 ⟨Bn, ln, cn, Bd, ld, cd, he, hvn, hvd, hb6⟩
      subst he
      have hP6 := HP5.out.below hb6
      have r0 := hP6.qr.c0
      have r1 := hP6.qr.c1
      have r2 := hP6.qr.c2
      have r3 := hP6.qr.fr 0
      have r4 := hP6.qr.fr 1
      have r5 := hP6.qr.fr 2
      go_wp2_with fail
      change bodyPost _ _ _ Exit.ret _ (wroteQ w6 (w.heap.size + 1) rs (.slice Bn ln cn) (.slice Bd ld cd))
      have g1 := hP6.qr.write rs (.slice Bn ln cn) (.slice Bd ld cd)
      have g2 : Num (wroteQ w6 (w.heap.size + 1) rs (.slice Bn ln cn) (.slice Bd ld cd)) w6.heap.size (.slice Bn ln cn) rm := Lim.wroteQ hvn hP6.qr rs _ _
      have g3 : Num (wroteQ w6 (w.heap.size + 1) rs (.slice Bn ln cn) (.slice Bd ld cd)) w6.heap.size (.slice Bd ld cd) rn := Lim.wroteQ hvd hP6.qr rs _ _
      have g4 := wroteQ_below hP6.bl (show w.heap.size ≤ w.heap.size + 1 by omega) rs (.slice Bn ln cn) (.slice Bd ld cd)
      have g5 : w6.heap.size ≤ (wroteQ w6 (w.heap.size + 1) rs (.slice Bn ln cn) (.slice Bd ld cd)).heap.size := by simp [wroteQ, World.setCell]
      generalize wroteQ w6 (w.heap.size + 1) rs (.slice Bn ln cn) (.slice Bd ld cd) = W9 at g1 g2 g3 g4 g5 ⊢
      have z0 := g1.c0
      have z1 := g1.c1
      have z2 := g1.c2
      refine bodyPost_ret (v := .tuple #[.agg #[.bool rs, .slice Bn ln cn, .slice Bd ld cd], .int .i64 re]) ?_ rfl ⟨Bn, ln, cn, Bd, ld, cd, rfl, Lim.more g2 g5, Lim.more g3 g5, g4⟩
      simp [results, Tryz.results67, z0, z1, z2, go_sem]
    · obtain rfl : sg = false := by rw [hsg, decide_eq_false hodd]; rfl
      have hp : (k : Int) % 2 = 0 := by omega
      clear hsg hodd
      go_enter Tryz.func67, Tryz.ntmps67
      go_wp2_with fail
      refine HEX.out.mono ?_
      rintro e w2 ⟨he, hP2⟩
      subst he
      have x0 := hP2.qa.c0
      have x1 := hP2.qa.c1
      have x2 := hP2.qa.c2
      go_wp2_with fail
      go_region_held3 (fun w' => w'.cell? ⟨w.heap.size, 1, none⟩ = some (.slice A1 l1 e1) ∧ w'.cell? ⟨w.heap.size, 2, none⟩ = some (.slice A2 l2 e2))
        (refine ⟨?_, ?_⟩ <;> first | with_reducible assumption | go_keep)
        (fail)
      have hP3 := hP2.drew
      clear hP2 x0 x1 x2
      generalize w2.drew = w3 at *
      go_wp2_with fail
      refine (HP1.out w3 hP3.bl).mono ?_
      rintro e w4 ⟨A3, n3, c3, he, hn4, hb4⟩
      subst he
      have hP4 := hP3.below hb4
      go_wp2_with fail
      refine (HP2.out w4 hP4.bl).mono ?_
      rintro e w5 ⟨A5, n5, c5, he, hn5, hb5⟩
      subst he
      have hP5 := hP4.below hb5
      have hn45 := hn4.up hb5
      have y0 := hP5.qa.c0
      have hcall := Lib.hid (HLO.out w5 _ _ hn45 hn5)
      have HP5 := Lib.hid hP5
      clear hP3 hP4 hP5 hn4 hn5 hn45 hb4 hb5
      go_wp2_with fail
      refine hcall.out.mono ?_
      rintro e w6 ⟨Bn, ln, cn, Bd, ld, cd, he, hvn, hvd, hb6⟩
      subst he
      have hP6 := HP5.out.below hb6
      have r0 := hP6.qr.c0
      have r1 := hP6.qr.c1
      have r2 := hP6.qr.c2
      have r3 := hP6.qr.fr 0
      have r4 := hP6.qr.fr 1
      have r5 := hP6.qr.fr 2
      go_wp2_with fail
      change bodyPost _ _ _ Exit.ret _ (wroteQ w6 (w.heap.size + 1) rs (.slice Bn ln cn) (.slice Bd ld cd))
      have g1 := hP6.qr.write rs (.slice Bn ln cn) (.slice Bd ld cd)
      have g2 : Num (wroteQ w6 (w.heap.size + 1) rs (.slice Bn ln cn) (.slice Bd ld cd)) w6.heap.size (.slice Bn ln cn) rm := Lim.wroteQ hvn hP6.qr rs _ _
      have g3 : Num (wroteQ w6 (w.heap.size + 1) rs (.slice Bn ln cn) (.slice Bd ld cd)) w6.heap.size (.slice Bd ld cd) rn := Lim.wroteQ hvd hP6.qr rs _ _
      have g4 := wroteQ_below hP6.bl (show w.heap.size ≤ w.heap.size + 1 by omega) rs (.slice Bn ln cn) (.slice Bd ld cd)
      have g5 : w6.heap.size ≤ (wroteQ w6 (w.heap.size + 1) rs (.slice Bn ln cn) (.slice Bd ld cd)).heap.size := by simp [wroteQ, World.setCell]
      generalize wroteQ w6 (w.heap.size + 1) rs (.slice Bn ln cn) (.slice Bd ld cd) = W9 at g1 g2 g3 g4 g5 ⊢
      have z0 := g1.c0
      have z1 := g1.c1
      have z2 := g1.c2
      refine bodyPost_ret (v := .tuple #[.agg #[.bool rs, .slice Bn ln cn, .slice Bd ld cd], .int .i64 re]) ?_ rfl ⟨Bn, ln, cn, Bd, ld, cd, rfl, Lim.more g2 g5, Lim.more g3 g5, g4⟩
      simp [results, Tryz.results67, z0, z1, z2, go_sem]
end Go.Proofs.YtlababdfdjjjaaaGreatDoor
namespace Go.Proofs.YtlababdfdjjjaaaGreatDoor
open Go.RowKit

/-! The reference's Pow. -/
def npowW (l : List Nat) (k : Int) : Nat × Int := if examW [l] = 0 then (if k < 0 ∨ 20000 < k then (0, 2) else fitW (val l ^ k.toNat)) else (0, examW [l])

set_option maxRecDepth 100000 in
set_option maxHeartbeats 2000000 in
theorem rPow_any (va : Value) (la : List Nat) (k : Int) (w : World) (ha : Arg w va la) :
    Calls Tryz.prog 45 #[va, .int .i64 k] w (Res w (npowW la k)) := by
  have hex := rexam1 va la w ha
  have hnum := fun (h : examW [la] = 0) => ha.num h (by simp)
  have hpw : examW [la] = 0 → ∀ (j : Nat), j ≤ 20000 → ∀ W, Below w.heap.size w W → Calls Tryz.prog 103 #[va, .int .i64 (j : Int)] W (RPw W (val la) j) := fun h j hj W hW => rpower_any va (val la) j W ((hnum h).1.up hW) (hnum h).2.1 (by omega)
  obtain ⟨A, capa, rfl, -⟩ := ha.1.form
  unfold npowW
  by_cases h0 : examW [la] = 0
  · rw [if_pos h0]
    rw [h0] at hex
    have HEX := Lib.hid hex
    have HPW := Lib.hid (hpw h0)
    clear hex hnum hpw ha h0
    generalize val la = m at *
    generalize la.length = l1 at *
    by_cases hr : k < 0 ∨ 20000 < k
    · rw [if_pos hr]
      by_cases hk : k < 0
      · clear hr
        go_enter Tryz.func45, Tryz.ntmps45
        go_wp2_with fail
        refine HEX.out.mono ?_
        rintro e w2 ⟨he, hb2⟩
        subst he
        go_wp2_with fail
        go_ret2
        exact ⟨_, rfl, Num.zero _ _, hb2⟩
      · have hk2 : 20000 < k := by omega
        clear hr
        go_enter Tryz.func45, Tryz.ntmps45
        go_wp2_with fail
        refine HEX.out.mono ?_
        rintro e w2 ⟨he, hb2⟩
        subst he
        go_wp2_with fail
        go_ret2
        exact ⟨_, rfl, Num.zero _ _, hb2⟩
    · rw [if_neg hr]
      obtain ⟨j, rfl⟩ : ∃ j : Nat, k = (j : Int) := ⟨k.toNat, by omega⟩
      have hj : j ≤ 20000 := by omega
      have hj0 : (0 : Int) ≤ (j : Int) := Int.natCast_nonneg _
      have hj1 : (j : Int) ≤ 20000 := by omega
      rw [Int.toNat_natCast]
      have HPJ := Lib.hid (HPW.out j hj)
      obtain ⟨r, hr1⟩ : ∃ r, r = fitW (m ^ j) := ⟨_, rfl⟩
      rw [← hr1]
      have HR := Lib.hid hr1
      clear hr hr1 HPW
      go_enter Tryz.func45, Tryz.ntmps45
      go_wp2_with fail
      refine HEX.out.mono ?_
      rintro e w2 ⟨he, hb2⟩
      subst he
      go_wp2_with fail
      refine (HPJ.out w2 hb2).mono ?_
      rintro e w3 ⟨B, n, c, he, hn, hb3⟩
      subst he
      have HB3 := Lib.hid (hb2.trans (hb3.mono hb2.size))
      by_cases hfit : (dg (m ^ j)).length ≤ 512
      · rw [if_pos hfit] at hn
        have hd : decide ((dg (m ^ j)).length ≤ 512) = true := decide_eq_true hfit
        have hrr : r = (m ^ j, 0) := by rw [HR.out]; unfold fitW; rw [if_neg (by omega), if_neg (by omega)]
        have HRR := Lib.hid hrr
        have HN := Lib.hid hn
        rw [hd]
        clear hn hb2 hb3 hfit hd hrr
        go_wp2_with fail
        go_ret2
        exact ⟨_, by rw [HRR.out]; rfl, by rw [HRR.out]; exact HN.out, HB3.out⟩
      · have hd : decide ((dg (m ^ j)).length ≤ 512) = false := decide_eq_false hfit
        have hrr : r = (0, 3) := by rw [HR.out]; unfold fitW; rw [if_pos (by omega), if_pos (by omega)]
        have HRR := Lib.hid hrr
        rw [hd]
        clear hn hb2 hb3 hfit hd hrr
        go_wp2_with fail
        go_ret2
        exact ⟨_, by rw [HRR.out]; rfl, by rw [HRR.out]; exact Num.zero _ _, HB3.out⟩
  · rw [if_neg h0]
    obtain ⟨ec, hec⟩ : ∃ ec, ec = examW [la] := ⟨_, rfl⟩
    rw [← hec] at hex h0 ⊢
    have q1 : (ec == 0) = false := by simp [h0]
    have q2 : (ec != 0) = true := by simp [h0]
    have HEX := Lib.hid hex
    clear hex hnum hpw ha h0 hec
    generalize la.length = l1 at *
    go_enter Tryz.func45, Tryz.ntmps45
    go_wp2_with fail
    refine HEX.out.mono ?_
    rintro e w2 ⟨he, hb2⟩
    subst he
    go_wp2_with fail
    go_ret2
    exact ⟨_, rfl, Num.zero _ _, hb2⟩
end Go.Proofs.YtlababdfdjjjaaaGreatDoor
