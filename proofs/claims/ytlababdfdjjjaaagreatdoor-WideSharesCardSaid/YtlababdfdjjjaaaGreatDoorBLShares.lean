import Derived.Test.YtlababdfdjjjaaaGreatDoorB4
namespace Go.Proofs.YtlababdfdjjjaaaGreatDoor
open Go.RowKit

set_option maxRecDepth 100000 in
set_option maxHeartbeats 16000000 in
theorem lawWideShares_any (A3 B3 : Option Addr) (n3 a3 m3 b3 : Nat) (s1 s2 : Bool) (A1 B1 A2 B2 : Option Addr) (n1 a1 m1 b1 n2 a2 m2 b2 : Nat) (k : Int) (ln3 ld3 ln1 ld1 : List Nat) (w : World) (hT : Tabs w) (fc : MuchOk3 w A3 B3 n3 a3 m3 b3 ln3 ld3) (fa : MuchOk3 w A1 B1 n1 a1 m1 b1 ln1 ld1) (hk1 : -9223372036854775808 ≤ k) (hk2 : k ≤ 9223372036854775807) :
    Calls Tryz.prog 10 #[.slice A3 n3 a3, .slice B3 m3 b3, .agg #[.bool s1, .slice A1 n1 a1, .slice B1 m1 b1, .bool s2, .slice A2 n2 a2, .slice B2 m2 b2, .int .i64 k]] w fun e w' => e = .returned (.bool true) ∧ Below w.heap.size w w' := by
  have HT := Lib.hid hT
  have HB := Lib.hid (Below.refl w.heap.size w)
  obtain ⟨c3, hf3, hg3⟩ := fc
  obtain ⟨c1, hf1, hg1⟩ := fa
  have F3 := Lib.hid hf3
  have F1 := Lib.hid hf1
  have G3 := Lib.hid hg3
  have G1 := Lib.hid hg1
  clear hf1 hf3 hg1 hg3 hT
  cases c3
  · have p : (-12 ≤ k ∧ k ≤ 12) ∨ (12 < k ∧ k ≤ 2000) ∨ 2000 < k ∨ (-2000 ≤ k ∧ k < -12) ∨ k < -2000 := by omega
    cases c1
    · rcases p with p | p | p | p | p
      · have t0 : ¬ 12 < k := by omega
        have t1 : k ≤ 2000 := by omega
        have t2 : ¬ k < -12 := by omega
        have t3 : -2000 ≤ k := by omega
        obtain ⟨h1, h2, h5⟩ := G1.out (by trivial)
        obtain ⟨h3, h4, -⟩ := G3.out (by trivial)
        clear G1 G3
        have hl1 : ln1.length = n1 := by obtain ⟨_, _, e, _⟩ := h1.1.form; injection e with _ e _; exact e.symm
        have hl2 : ld1.length = m1 := by obtain ⟨_, _, e, _⟩ := h2.1.form; injection e with _ e _; exact e.symm
        rw [← hl1, ← hl2] at h5
        have HQ := Lib.hid (show (-12 ≤ k ∧ k ≤ 12) ∨ k < -2000 ∨ 2000 < k by omega)
        have H1 : Hid (∀ W, Below w.heap.size w W → Calls Tryz.prog 64 #[.bool s1, .slice A3 n3 a3, .slice B3 m3 b3] W (QPost W (ratioW s1 ln3 ld3).1 (dg (ratioW s1 ln3 ld3).2.1) (dg (ratioW s1 ln3 ld3).2.2.1) (ratioW s1 ln3 ld3).2.2.2)) := Lib.hid fun W hW => qpost (Ratio_any s1 _ _ ln3 ld3 W (h3.up hW) (h4.up hW)) (small_ratio _ _ _)
        have R1 : Hid (∀ W, Below w.heap.size w W → Calls Tryz.prog 65 #[.bool s1, .slice A3 n3 a3, .slice B3 m3 b3] W (QPost W (ratioW s1 ln3 ld3).1 (dg (ratioW s1 ln3 ld3).2.1) (dg (ratioW s1 ln3 ld3).2.2.1) (ratioW s1 ln3 ld3).2.2.2)) := Lib.hid fun W hW => qpost (rRatio_any s1 _ _ ln3 ld3 W (h3.up hW) (h4.up hW)) (small_ratio _ _ _)
        generalize (ratioW s1 ln3 ld3).2.2.2 = e1 at *
        generalize dg (ratioW s1 ln3 ld3).2.2.1 = D1 at *
        generalize dg (ratioW s1 ln3 ld3).2.1 = N1 at *
        generalize (ratioW s1 ln3 ld3).1 = S1 at *
        have H2 : Hid (∀ W, Below w.heap.size w W → Calls Tryz.prog 66 #[.agg #[.bool s1, .slice A1 n1 a1, .slice B1 m1 b1], .int .i64 k] W (QPost W (qpowW ⟨s1, ln1, ld1⟩ k).1 (dg (qpowW ⟨s1, ln1, ld1⟩ k).2.1) (dg (qpowW ⟨s1, ln1, ld1⟩ k).2.2.1) (qpowW ⟨s1, ln1, ld1⟩ k).2.2.2)) := Lib.hid fun W hW => qpost (QPow_any ⟨s1, ln1, ld1⟩ _ _ k W ⟨h1.up hW, h2.up hW⟩) (small_qpow _ _)
        have R2 : Hid (∀ W, Below w.heap.size w W → Calls Tryz.prog 67 #[.agg #[.bool s1, .slice A1 n1 a1, .slice B1 m1 b1], .int .i64 k] W (QPost W (qpowW ⟨s1, ln1, ld1⟩ k).1 (dg (qpowW ⟨s1, ln1, ld1⟩ k).2.1) (dg (qpowW ⟨s1, ln1, ld1⟩ k).2.2.1) (qpowW ⟨s1, ln1, ld1⟩ k).2.2.2)) := Lib.hid fun W hW => qpost (rQPow_law ⟨s1, ln1, ld1⟩ _ _ k W ⟨h1.up hW, h2.up hW⟩ h5 HQ.out) (small_qpow _ _)
        generalize (qpowW ⟨s1, ln1, ld1⟩ k).2.2.2 = e2 at *
        generalize dg (qpowW ⟨s1, ln1, ld1⟩ k).2.2.1 = D2 at *
        generalize dg (qpowW ⟨s1, ln1, ld1⟩ k).2.1 = N2 at *
        generalize (qpowW ⟨s1, ln1, ld1⟩ k).1 = S2 at *
        clear h1 h2 h3 h4 h5 hl1 hl2 HQ
        clear p hk1 hk2
        have X := Lib.hid (QX.new (s1 := s1) (n1 := .slice A1 n1 a1) (d1 := .slice B1 m1 b1) (s2 := s2) (n2 := .slice A2 n2 a2) (d2 := .slice B2 m2 b2) (k := k) w)
        have hb := al_below w (.cells #[.bool s1, .slice A1 n1 a1, .slice B1 m1 b1, .bool s2, .slice A2 n2 a2, .slice B2 m2 b2, .int .i64 k] 50)
        have HB' := Lib.hid (HB.out.trans (hb.mono HB.out.size))
        clear HB
        have HB := HB'
        clear HB' hb
        go_enter Tryz.func10, Tryz.ntmps10
        have zX0 := X.out.c0
        have zX1 := X.out.c1
        have zX2 := X.out.c2
        have zX3 := X.out.c3
        have zX4 := X.out.c4
        have zX5 := X.out.c5
        have zX6 := X.out.c6
        go_wp2_with fail
        generalize w.alloc (.cells #[.bool s1, .slice A1 n1 a1, .slice B1 m1 b1, .bool s2, .slice A2 n2 a2, .slice B2 m2 b2, .int .i64 k] 50) = w0 at *
        refine (F3.out false _).mono ?_
        rintro e w1 ⟨he, hb⟩
        subst he
        clear zX0 zX1 zX2 zX3 zX4 zX5 zX6
        have X' := Lib.hid (X.out.below hb)
        clear X
        have X := X'
        clear X'
        have HB' := Lib.hid (HB.out.trans (hb.mono HB.out.size))
        clear HB
        have HB := HB'
        clear HB'
        clear hb
        have zX0 := X.out.c0
        have zX1 := X.out.c1
        have zX2 := X.out.c2
        have zX3 := X.out.c3
        have zX4 := X.out.c4
        have zX5 := X.out.c5
        have zX6 := X.out.c6
        go_wp2_with fail
        refine (F1.out s1 _).mono ?_
        rintro e w2 ⟨he, hb⟩
        subst he
        clear zX0 zX1 zX2 zX3 zX4 zX5 zX6
        have X' := Lib.hid (X.out.below hb)
        clear X
        have X := X'
        clear X'
        have HB' := Lib.hid (HB.out.trans (hb.mono HB.out.size))
        clear HB
        have HB := HB'
        clear HB'
        clear hb
        have zX0 := X.out.c0
        have zX1 := X.out.c1
        have zX2 := X.out.c2
        have zX3 := X.out.c3
        have zX4 := X.out.c4
        have zX5 := X.out.c5
        have zX6 := X.out.c6
        go_wp2_with fail
        refine (H1.out _ HB.out).mono ?_
        rintro e w3 ⟨Ap, lp, cp, Bp, mp, dp, he, hNp, hEp, hb⟩
        subst he
        clear zX0 zX1 zX2 zX3 zX4 zX5 zX6
        have X' := Lib.hid (X.out.below hb)
        clear X
        have X := X'
        clear X'
        have HB' := Lib.hid (HB.out.trans (hb.mono HB.out.size))
        clear HB
        have HB := HB'
        clear HB'
        clear hb
        have Np := Lib.hid hNp
        clear hNp
        have Ep := Lib.hid hEp
        clear hEp
        have neXQp := Lib.hid (Nat.ne_of_lt X.out.lt)
        have geQp := Lib.hid HB.out.size
        have hb := al_below w3 (.cells #[.bool S1, (.slice Ap lp cp), (.slice Bp mp dp)] 48)
        have Np' := Lib.hid (Np.out.up hb)
        clear Np
        have Np := Np'
        clear Np'
        have Ep' := Lib.hid (Ep.out.up hb)
        clear Ep
        have Ep := Ep'
        clear Ep'
        have X' := Lib.hid (X.out.below hb)
        clear X
        have X := X'
        clear X'
        have HB' := Lib.hid (HB.out.trans (hb.mono HB.out.size))
        clear HB
        have HB := HB'
        clear HB'
        clear hb
        have Qp := Lib.hid (QB.new w3 S1 (.slice Ap lp cp) (.slice Bp mp dp))
        have zX0 := X.out.c0
        have zX1 := X.out.c1
        have zX2 := X.out.c2
        have zX3 := X.out.c3
        have zX4 := X.out.c4
        have zX5 := X.out.c5
        have zX6 := X.out.c6
        have zQp0 := Qp.out.c0
        have zQp1 := Qp.out.c1
        have zQp2 := Qp.out.c2
        go_wp2_with fail
        generalize w3.alloc (.cells #[.bool S1, (.slice Ap lp cp), (.slice Bp mp dp)] 48) = wQp at *
        generalize w3.heap.size = gQp at *
        refine (R1.out _ HB.out).mono ?_
        rintro e w4 ⟨Aq, lq, cq, Bq, mq, dq, he, hNq, hEq, hb⟩
        subst he
        clear zX0 zX1 zX2 zX3 zX4 zX5 zX6 zQp0 zQp1 zQp2
        have Np' := Lib.hid (Np.out.up hb)
        clear Np
        have Np := Np'
        clear Np'
        have Ep' := Lib.hid (Ep.out.up hb)
        clear Ep
        have Ep := Ep'
        clear Ep'
        have Qp' := Lib.hid (Qp.out.below hb Qp.out.lt)
        clear Qp
        have Qp := Qp'
        clear Qp'
        have X' := Lib.hid (X.out.below hb)
        clear X
        have X := X'
        clear X'
        have HB' := Lib.hid (HB.out.trans (hb.mono HB.out.size))
        clear HB
        have HB := HB'
        clear HB'
        clear hb
        have Nq := Lib.hid hNq
        clear hNq
        have Eq := Lib.hid hEq
        clear hEq
        have neQpQq := Lib.hid (Nat.ne_of_lt Qp.out.lt)
        have neXQq := Lib.hid (Nat.ne_of_lt X.out.lt)
        have geQq := Lib.hid HB.out.size
        have hb := al_below w4 (.cells #[.bool S1, (.slice Aq lq cq), (.slice Bq mq dq)] 48)
        have Np' := Lib.hid (Np.out.up hb)
        clear Np
        have Np := Np'
        clear Np'
        have Ep' := Lib.hid (Ep.out.up hb)
        clear Ep
        have Ep := Ep'
        clear Ep'
        have Nq' := Lib.hid (Nq.out.up hb)
        clear Nq
        have Nq := Nq'
        clear Nq'
        have Eq' := Lib.hid (Eq.out.up hb)
        clear Eq
        have Eq := Eq'
        clear Eq'
        have Qp' := Lib.hid (Qp.out.below hb Qp.out.lt)
        clear Qp
        have Qp := Qp'
        clear Qp'
        have X' := Lib.hid (X.out.below hb)
        clear X
        have X := X'
        clear X'
        have HB' := Lib.hid (HB.out.trans (hb.mono HB.out.size))
        clear HB
        have HB := HB'
        clear HB'
        clear hb
        have Qq := Lib.hid (QB.new w4 S1 (.slice Aq lq cq) (.slice Bq mq dq))
        have zX0 := X.out.c0
        have zX1 := X.out.c1
        have zX2 := X.out.c2
        have zX3 := X.out.c3
        have zX4 := X.out.c4
        have zX5 := X.out.c5
        have zX6 := X.out.c6
        have zQp0 := Qp.out.c0
        have zQp1 := Qp.out.c1
        have zQp2 := Qp.out.c2
        have zQq0 := Qq.out.c0
        have zQq1 := Qq.out.c1
        have zQq2 := Qq.out.c2
        go_wp2_with fail
        generalize w4.alloc (.cells #[.bool S1, (.slice Aq lq cq), (.slice Bq mq dq)] 48) = wQq at *
        generalize w4.heap.size = gQq at *
        refine (H2.out _ HB.out).mono ?_
        rintro e w5 ⟨Ar, lr, cr, Br, mr, dr, he, hNr, hEr, hb⟩
        subst he
        clear zX0 zX1 zX2 zX3 zX4 zX5 zX6 zQp0 zQp1 zQp2 zQq0 zQq1 zQq2
        have Np' := Lib.hid (Np.out.up hb)
        clear Np
        have Np := Np'
        clear Np'
        have Ep' := Lib.hid (Ep.out.up hb)
        clear Ep
        have Ep := Ep'
        clear Ep'
        have Nq' := Lib.hid (Nq.out.up hb)
        clear Nq
        have Nq := Nq'
        clear Nq'
        have Eq' := Lib.hid (Eq.out.up hb)
        clear Eq
        have Eq := Eq'
        clear Eq'
        have Qp' := Lib.hid (Qp.out.below hb Qp.out.lt)
        clear Qp
        have Qp := Qp'
        clear Qp'
        have Qq' := Lib.hid (Qq.out.below hb Qq.out.lt)
        clear Qq
        have Qq := Qq'
        clear Qq'
        have X' := Lib.hid (X.out.below hb)
        clear X
        have X := X'
        clear X'
        have HB' := Lib.hid (HB.out.trans (hb.mono HB.out.size))
        clear HB
        have HB := HB'
        clear HB'
        clear hb
        have Nr := Lib.hid hNr
        clear hNr
        have Er := Lib.hid hEr
        clear hEr
        have neQpQr := Lib.hid (Nat.ne_of_lt Qp.out.lt)
        have neQqQr := Lib.hid (Nat.ne_of_lt Qq.out.lt)
        have neXQr := Lib.hid (Nat.ne_of_lt X.out.lt)
        have geQr := Lib.hid HB.out.size
        have hb := al_below w5 (.cells #[.bool S2, (.slice Ar lr cr), (.slice Br mr dr)] 48)
        have Np' := Lib.hid (Np.out.up hb)
        clear Np
        have Np := Np'
        clear Np'
        have Ep' := Lib.hid (Ep.out.up hb)
        clear Ep
        have Ep := Ep'
        clear Ep'
        have Nq' := Lib.hid (Nq.out.up hb)
        clear Nq
        have Nq := Nq'
        clear Nq'
        have Eq' := Lib.hid (Eq.out.up hb)
        clear Eq
        have Eq := Eq'
        clear Eq'
        have Nr' := Lib.hid (Nr.out.up hb)
        clear Nr
        have Nr := Nr'
        clear Nr'
        have Er' := Lib.hid (Er.out.up hb)
        clear Er
        have Er := Er'
        clear Er'
        have Qp' := Lib.hid (Qp.out.below hb Qp.out.lt)
        clear Qp
        have Qp := Qp'
        clear Qp'
        have Qq' := Lib.hid (Qq.out.below hb Qq.out.lt)
        clear Qq
        have Qq := Qq'
        clear Qq'
        have X' := Lib.hid (X.out.below hb)
        clear X
        have X := X'
        clear X'
        have HB' := Lib.hid (HB.out.trans (hb.mono HB.out.size))
        clear HB
        have HB := HB'
        clear HB'
        clear hb
        have Qr := Lib.hid (QB.new w5 S2 (.slice Ar lr cr) (.slice Br mr dr))
        have zX0 := X.out.c0
        have zX1 := X.out.c1
        have zX2 := X.out.c2
        have zX3 := X.out.c3
        have zX4 := X.out.c4
        have zX5 := X.out.c5
        have zX6 := X.out.c6
        have zQp0 := Qp.out.c0
        have zQp1 := Qp.out.c1
        have zQp2 := Qp.out.c2
        have zQq0 := Qq.out.c0
        have zQq1 := Qq.out.c1
        have zQq2 := Qq.out.c2
        have zQr0 := Qr.out.c0
        have zQr1 := Qr.out.c1
        have zQr2 := Qr.out.c2
        go_wp2_with fail
        generalize w5.alloc (.cells #[.bool S2, (.slice Ar lr cr), (.slice Br mr dr)] 48) = wQr at *
        generalize w5.heap.size = gQr at *
        refine (R2.out _ HB.out).mono ?_
        rintro e w6 ⟨As, ls, cs, Bs, ms, ds, he, hNs, hEs, hb⟩
        subst he
        clear zX0 zX1 zX2 zX3 zX4 zX5 zX6 zQp0 zQp1 zQp2 zQq0 zQq1 zQq2 zQr0 zQr1 zQr2
        have Np' := Lib.hid (Np.out.up hb)
        clear Np
        have Np := Np'
        clear Np'
        have Ep' := Lib.hid (Ep.out.up hb)
        clear Ep
        have Ep := Ep'
        clear Ep'
        have Nq' := Lib.hid (Nq.out.up hb)
        clear Nq
        have Nq := Nq'
        clear Nq'
        have Eq' := Lib.hid (Eq.out.up hb)
        clear Eq
        have Eq := Eq'
        clear Eq'
        have Nr' := Lib.hid (Nr.out.up hb)
        clear Nr
        have Nr := Nr'
        clear Nr'
        have Er' := Lib.hid (Er.out.up hb)
        clear Er
        have Er := Er'
        clear Er'
        have Qp' := Lib.hid (Qp.out.below hb Qp.out.lt)
        clear Qp
        have Qp := Qp'
        clear Qp'
        have Qq' := Lib.hid (Qq.out.below hb Qq.out.lt)
        clear Qq
        have Qq := Qq'
        clear Qq'
        have Qr' := Lib.hid (Qr.out.below hb Qr.out.lt)
        clear Qr
        have Qr := Qr'
        clear Qr'
        have X' := Lib.hid (X.out.below hb)
        clear X
        have X := X'
        clear X'
        have HB' := Lib.hid (HB.out.trans (hb.mono HB.out.size))
        clear HB
        have HB := HB'
        clear HB'
        clear hb
        have Ns := Lib.hid hNs
        clear hNs
        have Es := Lib.hid hEs
        clear hEs
        have neQpQs := Lib.hid (Nat.ne_of_lt Qp.out.lt)
        have neQqQs := Lib.hid (Nat.ne_of_lt Qq.out.lt)
        have neQrQs := Lib.hid (Nat.ne_of_lt Qr.out.lt)
        have neXQs := Lib.hid (Nat.ne_of_lt X.out.lt)
        have geQs := Lib.hid HB.out.size
        have hb := al_below w6 (.cells #[.bool S2, (.slice As ls cs), (.slice Bs ms ds)] 48)
        have Np' := Lib.hid (Np.out.up hb)
        clear Np
        have Np := Np'
        clear Np'
        have Ep' := Lib.hid (Ep.out.up hb)
        clear Ep
        have Ep := Ep'
        clear Ep'
        have Nq' := Lib.hid (Nq.out.up hb)
        clear Nq
        have Nq := Nq'
        clear Nq'
        have Eq' := Lib.hid (Eq.out.up hb)
        clear Eq
        have Eq := Eq'
        clear Eq'
        have Nr' := Lib.hid (Nr.out.up hb)
        clear Nr
        have Nr := Nr'
        clear Nr'
        have Er' := Lib.hid (Er.out.up hb)
        clear Er
        have Er := Er'
        clear Er'
        have Ns' := Lib.hid (Ns.out.up hb)
        clear Ns
        have Ns := Ns'
        clear Ns'
        have Es' := Lib.hid (Es.out.up hb)
        clear Es
        have Es := Es'
        clear Es'
        have Qp' := Lib.hid (Qp.out.below hb Qp.out.lt)
        clear Qp
        have Qp := Qp'
        clear Qp'
        have Qq' := Lib.hid (Qq.out.below hb Qq.out.lt)
        clear Qq
        have Qq := Qq'
        clear Qq'
        have Qr' := Lib.hid (Qr.out.below hb Qr.out.lt)
        clear Qr
        have Qr := Qr'
        clear Qr'
        have X' := Lib.hid (X.out.below hb)
        clear X
        have X := X'
        clear X'
        have HB' := Lib.hid (HB.out.trans (hb.mono HB.out.size))
        clear HB
        have HB := HB'
        clear HB'
        clear hb
        have Qs := Lib.hid (QB.new w6 S2 (.slice As ls cs) (.slice Bs ms ds))
        have zX0 := X.out.c0
        have zX1 := X.out.c1
        have zX2 := X.out.c2
        have zX3 := X.out.c3
        have zX4 := X.out.c4
        have zX5 := X.out.c5
        have zX6 := X.out.c6
        have zQp0 := Qp.out.c0
        have zQp1 := Qp.out.c1
        have zQp2 := Qp.out.c2
        have zQq0 := Qq.out.c0
        have zQq1 := Qq.out.c1
        have zQq2 := Qq.out.c2
        have zQr0 := Qr.out.c0
        have zQr1 := Qr.out.c1
        have zQr2 := Qr.out.c2
        have zQs0 := Qs.out.c0
        have zQs1 := Qs.out.c1
        have zQs2 := Qs.out.c2
        go_wp2_with fail
        generalize w6.alloc (.cells #[.bool S2, (.slice As ls cs), (.slice Bs ms ds)] 48) = wQs at *
        generalize w6.heap.size = gQs at *
        refine (aw_sameQ _ _ _ _ _ _ _ _ Np.out Ep.out Nq.out Eq.out).mono ?_
        rintro e w7 ⟨he, hb⟩
        subst he
        clear zX0 zX1 zX2 zX3 zX4 zX5 zX6 zQp0 zQp1 zQp2 zQq0 zQq1 zQq2 zQr0 zQr1 zQr2 zQs0 zQs1 zQs2
        have Np' := Lib.hid (Np.out.up hb)
        clear Np
        have Np := Np'
        clear Np'
        have Ep' := Lib.hid (Ep.out.up hb)
        clear Ep
        have Ep := Ep'
        clear Ep'
        have Nq' := Lib.hid (Nq.out.up hb)
        clear Nq
        have Nq := Nq'
        clear Nq'
        have Eq' := Lib.hid (Eq.out.up hb)
        clear Eq
        have Eq := Eq'
        clear Eq'
        have Nr' := Lib.hid (Nr.out.up hb)
        clear Nr
        have Nr := Nr'
        clear Nr'
        have Er' := Lib.hid (Er.out.up hb)
        clear Er
        have Er := Er'
        clear Er'
        have Ns' := Lib.hid (Ns.out.up hb)
        clear Ns
        have Ns := Ns'
        clear Ns'
        have Es' := Lib.hid (Es.out.up hb)
        clear Es
        have Es := Es'
        clear Es'
        have Qp' := Lib.hid (Qp.out.below hb Qp.out.lt)
        clear Qp
        have Qp := Qp'
        clear Qp'
        have Qq' := Lib.hid (Qq.out.below hb Qq.out.lt)
        clear Qq
        have Qq := Qq'
        clear Qq'
        have Qr' := Lib.hid (Qr.out.below hb Qr.out.lt)
        clear Qr
        have Qr := Qr'
        clear Qr'
        have Qs' := Lib.hid (Qs.out.below hb Qs.out.lt)
        clear Qs
        have Qs := Qs'
        clear Qs'
        have X' := Lib.hid (X.out.below hb)
        clear X
        have X := X'
        clear X'
        have HB' := Lib.hid (HB.out.trans (hb.mono HB.out.size))
        clear HB
        have HB := HB'
        clear HB'
        clear hb
        have zX0 := X.out.c0
        have zX1 := X.out.c1
        have zX2 := X.out.c2
        have zX3 := X.out.c3
        have zX4 := X.out.c4
        have zX5 := X.out.c5
        have zX6 := X.out.c6
        have zQp0 := Qp.out.c0
        have zQp1 := Qp.out.c1
        have zQp2 := Qp.out.c2
        have zQq0 := Qq.out.c0
        have zQq1 := Qq.out.c1
        have zQq2 := Qq.out.c2
        have zQr0 := Qr.out.c0
        have zQr1 := Qr.out.c1
        have zQr2 := Qr.out.c2
        have zQs0 := Qs.out.c0
        have zQs1 := Qs.out.c1
        have zQs2 := Qs.out.c2
        go_wp2_with fail
        refine (aw_sameQ _ _ _ _ _ _ _ _ Nr.out Er.out Ns.out Es.out).mono ?_
        rintro e w8 ⟨he, hb⟩
        subst he
        clear zX0 zX1 zX2 zX3 zX4 zX5 zX6 zQp0 zQp1 zQp2 zQq0 zQq1 zQq2 zQr0 zQr1 zQr2 zQs0 zQs1 zQs2
        have Np' := Lib.hid (Np.out.up hb)
        clear Np
        have Np := Np'
        clear Np'
        have Ep' := Lib.hid (Ep.out.up hb)
        clear Ep
        have Ep := Ep'
        clear Ep'
        have Nq' := Lib.hid (Nq.out.up hb)
        clear Nq
        have Nq := Nq'
        clear Nq'
        have Eq' := Lib.hid (Eq.out.up hb)
        clear Eq
        have Eq := Eq'
        clear Eq'
        have Nr' := Lib.hid (Nr.out.up hb)
        clear Nr
        have Nr := Nr'
        clear Nr'
        have Er' := Lib.hid (Er.out.up hb)
        clear Er
        have Er := Er'
        clear Er'
        have Ns' := Lib.hid (Ns.out.up hb)
        clear Ns
        have Ns := Ns'
        clear Ns'
        have Es' := Lib.hid (Es.out.up hb)
        clear Es
        have Es := Es'
        clear Es'
        have Qp' := Lib.hid (Qp.out.below hb Qp.out.lt)
        clear Qp
        have Qp := Qp'
        clear Qp'
        have Qq' := Lib.hid (Qq.out.below hb Qq.out.lt)
        clear Qq
        have Qq := Qq'
        clear Qq'
        have Qr' := Lib.hid (Qr.out.below hb Qr.out.lt)
        clear Qr
        have Qr := Qr'
        clear Qr'
        have Qs' := Lib.hid (Qs.out.below hb Qs.out.lt)
        clear Qs
        have Qs := Qs'
        clear Qs'
        have X' := Lib.hid (X.out.below hb)
        clear X
        have X := X'
        clear X'
        have HB' := Lib.hid (HB.out.trans (hb.mono HB.out.size))
        clear HB
        have HB := HB'
        clear HB'
        clear hb
        have zX0 := X.out.c0
        have zX1 := X.out.c1
        have zX2 := X.out.c2
        have zX3 := X.out.c3
        have zX4 := X.out.c4
        have zX5 := X.out.c5
        have zX6 := X.out.c6
        have zQp0 := Qp.out.c0
        have zQp1 := Qp.out.c1
        have zQp2 := Qp.out.c2
        have zQq0 := Qq.out.c0
        have zQq1 := Qq.out.c1
        have zQq2 := Qq.out.c2
        have zQr0 := Qr.out.c0
        have zQr1 := Qr.out.c1
        have zQr2 := Qr.out.c2
        have zQs0 := Qs.out.c0
        have zQs1 := Qs.out.c1
        have zQs2 := Qs.out.c2
        go_wp2_with fail
        refine (awake_any _ (HT.out.below HB.out)).mono ?_
        rintro e w9 ⟨he, hb⟩
        subst he
        clear zX0 zX1 zX2 zX3 zX4 zX5 zX6 zQp0 zQp1 zQp2 zQq0 zQq1 zQq2 zQr0 zQr1 zQr2 zQs0 zQs1 zQs2
        go_wp2_with fail
        go_ret
        exact ⟨rfl, HB.out.trans (hb.mono HB.out.size)⟩
      · have t0 : 12 < k := by omega
        have t1 : k ≤ 2000 := by omega
        have t2 : ¬ k < -12 := by omega
        have t3 : -2000 ≤ k := by omega
        clear p hk1 hk2
        clear G1 G3
        have X := Lib.hid (QX.new (s1 := s1) (n1 := .slice A1 n1 a1) (d1 := .slice B1 m1 b1) (s2 := s2) (n2 := .slice A2 n2 a2) (d2 := .slice B2 m2 b2) (k := k) w)
        have hb := al_below w (.cells #[.bool s1, .slice A1 n1 a1, .slice B1 m1 b1, .bool s2, .slice A2 n2 a2, .slice B2 m2 b2, .int .i64 k] 50)
        have HB' := Lib.hid (HB.out.trans (hb.mono HB.out.size))
        clear HB
        have HB := HB'
        clear HB' hb
        go_enter Tryz.func10, Tryz.ntmps10
        have zX0 := X.out.c0
        have zX1 := X.out.c1
        have zX2 := X.out.c2
        have zX3 := X.out.c3
        have zX4 := X.out.c4
        have zX5 := X.out.c5
        have zX6 := X.out.c6
        go_wp2_with fail
        generalize w.alloc (.cells #[.bool s1, .slice A1 n1 a1, .slice B1 m1 b1, .bool s2, .slice A2 n2 a2, .slice B2 m2 b2, .int .i64 k] 50) = w0 at *
        refine (F3.out false _).mono ?_
        rintro e w1 ⟨he, hb⟩
        subst he
        clear zX0 zX1 zX2 zX3 zX4 zX5 zX6
        have X' := Lib.hid (X.out.below hb)
        clear X
        have X := X'
        clear X'
        have HB' := Lib.hid (HB.out.trans (hb.mono HB.out.size))
        clear HB
        have HB := HB'
        clear HB'
        clear hb
        have zX0 := X.out.c0
        have zX1 := X.out.c1
        have zX2 := X.out.c2
        have zX3 := X.out.c3
        have zX4 := X.out.c4
        have zX5 := X.out.c5
        have zX6 := X.out.c6
        go_wp2_with fail
        refine (F1.out s1 _).mono ?_
        rintro e w2 ⟨he, hb⟩
        subst he
        clear zX0 zX1 zX2 zX3 zX4 zX5 zX6
        have X' := Lib.hid (X.out.below hb)
        clear X
        have X := X'
        clear X'
        have HB' := Lib.hid (HB.out.trans (hb.mono HB.out.size))
        clear HB
        have HB := HB'
        clear HB'
        clear hb
        have zX0 := X.out.c0
        have zX1 := X.out.c1
        have zX2 := X.out.c2
        have zX3 := X.out.c3
        have zX4 := X.out.c4
        have zX5 := X.out.c5
        have zX6 := X.out.c6
        go_wp2_with fail
        refine (awake_any _ (HT.out.below HB.out)).mono ?_
        rintro e w3 ⟨he, hb⟩
        subst he
        clear zX0 zX1 zX2 zX3 zX4 zX5 zX6
        go_wp2_with fail
        go_ret
        exact ⟨rfl, HB.out.trans (hb.mono HB.out.size)⟩
      · have t0 : 12 < k := by omega
        have t1 : ¬ k ≤ 2000 := by omega
        have t2 : ¬ k < -12 := by omega
        have t3 : -2000 ≤ k := by omega
        obtain ⟨h1, h2, h5⟩ := G1.out (by trivial)
        obtain ⟨h3, h4, -⟩ := G3.out (by trivial)
        clear G1 G3
        have hl1 : ln1.length = n1 := by obtain ⟨_, _, e, _⟩ := h1.1.form; injection e with _ e _; exact e.symm
        have hl2 : ld1.length = m1 := by obtain ⟨_, _, e, _⟩ := h2.1.form; injection e with _ e _; exact e.symm
        rw [← hl1, ← hl2] at h5
        have HQ := Lib.hid (show (-12 ≤ k ∧ k ≤ 12) ∨ k < -2000 ∨ 2000 < k by omega)
        have H1 : Hid (∀ W, Below w.heap.size w W → Calls Tryz.prog 64 #[.bool s1, .slice A3 n3 a3, .slice B3 m3 b3] W (QPost W (ratioW s1 ln3 ld3).1 (dg (ratioW s1 ln3 ld3).2.1) (dg (ratioW s1 ln3 ld3).2.2.1) (ratioW s1 ln3 ld3).2.2.2)) := Lib.hid fun W hW => qpost (Ratio_any s1 _ _ ln3 ld3 W (h3.up hW) (h4.up hW)) (small_ratio _ _ _)
        have R1 : Hid (∀ W, Below w.heap.size w W → Calls Tryz.prog 65 #[.bool s1, .slice A3 n3 a3, .slice B3 m3 b3] W (QPost W (ratioW s1 ln3 ld3).1 (dg (ratioW s1 ln3 ld3).2.1) (dg (ratioW s1 ln3 ld3).2.2.1) (ratioW s1 ln3 ld3).2.2.2)) := Lib.hid fun W hW => qpost (rRatio_any s1 _ _ ln3 ld3 W (h3.up hW) (h4.up hW)) (small_ratio _ _ _)
        generalize (ratioW s1 ln3 ld3).2.2.2 = e1 at *
        generalize dg (ratioW s1 ln3 ld3).2.2.1 = D1 at *
        generalize dg (ratioW s1 ln3 ld3).2.1 = N1 at *
        generalize (ratioW s1 ln3 ld3).1 = S1 at *
        have H2 : Hid (∀ W, Below w.heap.size w W → Calls Tryz.prog 66 #[.agg #[.bool s1, .slice A1 n1 a1, .slice B1 m1 b1], .int .i64 k] W (QPost W (qpowW ⟨s1, ln1, ld1⟩ k).1 (dg (qpowW ⟨s1, ln1, ld1⟩ k).2.1) (dg (qpowW ⟨s1, ln1, ld1⟩ k).2.2.1) (qpowW ⟨s1, ln1, ld1⟩ k).2.2.2)) := Lib.hid fun W hW => qpost (QPow_any ⟨s1, ln1, ld1⟩ _ _ k W ⟨h1.up hW, h2.up hW⟩) (small_qpow _ _)
        have R2 : Hid (∀ W, Below w.heap.size w W → Calls Tryz.prog 67 #[.agg #[.bool s1, .slice A1 n1 a1, .slice B1 m1 b1], .int .i64 k] W (QPost W (qpowW ⟨s1, ln1, ld1⟩ k).1 (dg (qpowW ⟨s1, ln1, ld1⟩ k).2.1) (dg (qpowW ⟨s1, ln1, ld1⟩ k).2.2.1) (qpowW ⟨s1, ln1, ld1⟩ k).2.2.2)) := Lib.hid fun W hW => qpost (rQPow_law ⟨s1, ln1, ld1⟩ _ _ k W ⟨h1.up hW, h2.up hW⟩ h5 HQ.out) (small_qpow _ _)
        generalize (qpowW ⟨s1, ln1, ld1⟩ k).2.2.2 = e2 at *
        generalize dg (qpowW ⟨s1, ln1, ld1⟩ k).2.2.1 = D2 at *
        generalize dg (qpowW ⟨s1, ln1, ld1⟩ k).2.1 = N2 at *
        generalize (qpowW ⟨s1, ln1, ld1⟩ k).1 = S2 at *
        clear h1 h2 h3 h4 h5 hl1 hl2 HQ
        clear p hk1 hk2
        have X := Lib.hid (QX.new (s1 := s1) (n1 := .slice A1 n1 a1) (d1 := .slice B1 m1 b1) (s2 := s2) (n2 := .slice A2 n2 a2) (d2 := .slice B2 m2 b2) (k := k) w)
        have hb := al_below w (.cells #[.bool s1, .slice A1 n1 a1, .slice B1 m1 b1, .bool s2, .slice A2 n2 a2, .slice B2 m2 b2, .int .i64 k] 50)
        have HB' := Lib.hid (HB.out.trans (hb.mono HB.out.size))
        clear HB
        have HB := HB'
        clear HB' hb
        go_enter Tryz.func10, Tryz.ntmps10
        have zX0 := X.out.c0
        have zX1 := X.out.c1
        have zX2 := X.out.c2
        have zX3 := X.out.c3
        have zX4 := X.out.c4
        have zX5 := X.out.c5
        have zX6 := X.out.c6
        go_wp2_with fail
        generalize w.alloc (.cells #[.bool s1, .slice A1 n1 a1, .slice B1 m1 b1, .bool s2, .slice A2 n2 a2, .slice B2 m2 b2, .int .i64 k] 50) = w0 at *
        refine (F3.out false _).mono ?_
        rintro e w1 ⟨he, hb⟩
        subst he
        clear zX0 zX1 zX2 zX3 zX4 zX5 zX6
        have X' := Lib.hid (X.out.below hb)
        clear X
        have X := X'
        clear X'
        have HB' := Lib.hid (HB.out.trans (hb.mono HB.out.size))
        clear HB
        have HB := HB'
        clear HB'
        clear hb
        have zX0 := X.out.c0
        have zX1 := X.out.c1
        have zX2 := X.out.c2
        have zX3 := X.out.c3
        have zX4 := X.out.c4
        have zX5 := X.out.c5
        have zX6 := X.out.c6
        go_wp2_with fail
        refine (F1.out s1 _).mono ?_
        rintro e w2 ⟨he, hb⟩
        subst he
        clear zX0 zX1 zX2 zX3 zX4 zX5 zX6
        have X' := Lib.hid (X.out.below hb)
        clear X
        have X := X'
        clear X'
        have HB' := Lib.hid (HB.out.trans (hb.mono HB.out.size))
        clear HB
        have HB := HB'
        clear HB'
        clear hb
        have zX0 := X.out.c0
        have zX1 := X.out.c1
        have zX2 := X.out.c2
        have zX3 := X.out.c3
        have zX4 := X.out.c4
        have zX5 := X.out.c5
        have zX6 := X.out.c6
        go_wp2_with fail
        refine (H1.out _ HB.out).mono ?_
        rintro e w3 ⟨Ap, lp, cp, Bp, mp, dp, he, hNp, hEp, hb⟩
        subst he
        clear zX0 zX1 zX2 zX3 zX4 zX5 zX6
        have X' := Lib.hid (X.out.below hb)
        clear X
        have X := X'
        clear X'
        have HB' := Lib.hid (HB.out.trans (hb.mono HB.out.size))
        clear HB
        have HB := HB'
        clear HB'
        clear hb
        have Np := Lib.hid hNp
        clear hNp
        have Ep := Lib.hid hEp
        clear hEp
        have neXQp := Lib.hid (Nat.ne_of_lt X.out.lt)
        have geQp := Lib.hid HB.out.size
        have hb := al_below w3 (.cells #[.bool S1, (.slice Ap lp cp), (.slice Bp mp dp)] 48)
        have Np' := Lib.hid (Np.out.up hb)
        clear Np
        have Np := Np'
        clear Np'
        have Ep' := Lib.hid (Ep.out.up hb)
        clear Ep
        have Ep := Ep'
        clear Ep'
        have X' := Lib.hid (X.out.below hb)
        clear X
        have X := X'
        clear X'
        have HB' := Lib.hid (HB.out.trans (hb.mono HB.out.size))
        clear HB
        have HB := HB'
        clear HB'
        clear hb
        have Qp := Lib.hid (QB.new w3 S1 (.slice Ap lp cp) (.slice Bp mp dp))
        have zX0 := X.out.c0
        have zX1 := X.out.c1
        have zX2 := X.out.c2
        have zX3 := X.out.c3
        have zX4 := X.out.c4
        have zX5 := X.out.c5
        have zX6 := X.out.c6
        have zQp0 := Qp.out.c0
        have zQp1 := Qp.out.c1
        have zQp2 := Qp.out.c2
        go_wp2_with fail
        generalize w3.alloc (.cells #[.bool S1, (.slice Ap lp cp), (.slice Bp mp dp)] 48) = wQp at *
        generalize w3.heap.size = gQp at *
        refine (R1.out _ HB.out).mono ?_
        rintro e w4 ⟨Aq, lq, cq, Bq, mq, dq, he, hNq, hEq, hb⟩
        subst he
        clear zX0 zX1 zX2 zX3 zX4 zX5 zX6 zQp0 zQp1 zQp2
        have Np' := Lib.hid (Np.out.up hb)
        clear Np
        have Np := Np'
        clear Np'
        have Ep' := Lib.hid (Ep.out.up hb)
        clear Ep
        have Ep := Ep'
        clear Ep'
        have Qp' := Lib.hid (Qp.out.below hb Qp.out.lt)
        clear Qp
        have Qp := Qp'
        clear Qp'
        have X' := Lib.hid (X.out.below hb)
        clear X
        have X := X'
        clear X'
        have HB' := Lib.hid (HB.out.trans (hb.mono HB.out.size))
        clear HB
        have HB := HB'
        clear HB'
        clear hb
        have Nq := Lib.hid hNq
        clear hNq
        have Eq := Lib.hid hEq
        clear hEq
        have neQpQq := Lib.hid (Nat.ne_of_lt Qp.out.lt)
        have neXQq := Lib.hid (Nat.ne_of_lt X.out.lt)
        have geQq := Lib.hid HB.out.size
        have hb := al_below w4 (.cells #[.bool S1, (.slice Aq lq cq), (.slice Bq mq dq)] 48)
        have Np' := Lib.hid (Np.out.up hb)
        clear Np
        have Np := Np'
        clear Np'
        have Ep' := Lib.hid (Ep.out.up hb)
        clear Ep
        have Ep := Ep'
        clear Ep'
        have Nq' := Lib.hid (Nq.out.up hb)
        clear Nq
        have Nq := Nq'
        clear Nq'
        have Eq' := Lib.hid (Eq.out.up hb)
        clear Eq
        have Eq := Eq'
        clear Eq'
        have Qp' := Lib.hid (Qp.out.below hb Qp.out.lt)
        clear Qp
        have Qp := Qp'
        clear Qp'
        have X' := Lib.hid (X.out.below hb)
        clear X
        have X := X'
        clear X'
        have HB' := Lib.hid (HB.out.trans (hb.mono HB.out.size))
        clear HB
        have HB := HB'
        clear HB'
        clear hb
        have Qq := Lib.hid (QB.new w4 S1 (.slice Aq lq cq) (.slice Bq mq dq))
        have zX0 := X.out.c0
        have zX1 := X.out.c1
        have zX2 := X.out.c2
        have zX3 := X.out.c3
        have zX4 := X.out.c4
        have zX5 := X.out.c5
        have zX6 := X.out.c6
        have zQp0 := Qp.out.c0
        have zQp1 := Qp.out.c1
        have zQp2 := Qp.out.c2
        have zQq0 := Qq.out.c0
        have zQq1 := Qq.out.c1
        have zQq2 := Qq.out.c2
        go_wp2_with fail
        generalize w4.alloc (.cells #[.bool S1, (.slice Aq lq cq), (.slice Bq mq dq)] 48) = wQq at *
        generalize w4.heap.size = gQq at *
        refine (H2.out _ HB.out).mono ?_
        rintro e w5 ⟨Ar, lr, cr, Br, mr, dr, he, hNr, hEr, hb⟩
        subst he
        clear zX0 zX1 zX2 zX3 zX4 zX5 zX6 zQp0 zQp1 zQp2 zQq0 zQq1 zQq2
        have Np' := Lib.hid (Np.out.up hb)
        clear Np
        have Np := Np'
        clear Np'
        have Ep' := Lib.hid (Ep.out.up hb)
        clear Ep
        have Ep := Ep'
        clear Ep'
        have Nq' := Lib.hid (Nq.out.up hb)
        clear Nq
        have Nq := Nq'
        clear Nq'
        have Eq' := Lib.hid (Eq.out.up hb)
        clear Eq
        have Eq := Eq'
        clear Eq'
        have Qp' := Lib.hid (Qp.out.below hb Qp.out.lt)
        clear Qp
        have Qp := Qp'
        clear Qp'
        have Qq' := Lib.hid (Qq.out.below hb Qq.out.lt)
        clear Qq
        have Qq := Qq'
        clear Qq'
        have X' := Lib.hid (X.out.below hb)
        clear X
        have X := X'
        clear X'
        have HB' := Lib.hid (HB.out.trans (hb.mono HB.out.size))
        clear HB
        have HB := HB'
        clear HB'
        clear hb
        have Nr := Lib.hid hNr
        clear hNr
        have Er := Lib.hid hEr
        clear hEr
        have neQpQr := Lib.hid (Nat.ne_of_lt Qp.out.lt)
        have neQqQr := Lib.hid (Nat.ne_of_lt Qq.out.lt)
        have neXQr := Lib.hid (Nat.ne_of_lt X.out.lt)
        have geQr := Lib.hid HB.out.size
        have hb := al_below w5 (.cells #[.bool S2, (.slice Ar lr cr), (.slice Br mr dr)] 48)
        have Np' := Lib.hid (Np.out.up hb)
        clear Np
        have Np := Np'
        clear Np'
        have Ep' := Lib.hid (Ep.out.up hb)
        clear Ep
        have Ep := Ep'
        clear Ep'
        have Nq' := Lib.hid (Nq.out.up hb)
        clear Nq
        have Nq := Nq'
        clear Nq'
        have Eq' := Lib.hid (Eq.out.up hb)
        clear Eq
        have Eq := Eq'
        clear Eq'
        have Nr' := Lib.hid (Nr.out.up hb)
        clear Nr
        have Nr := Nr'
        clear Nr'
        have Er' := Lib.hid (Er.out.up hb)
        clear Er
        have Er := Er'
        clear Er'
        have Qp' := Lib.hid (Qp.out.below hb Qp.out.lt)
        clear Qp
        have Qp := Qp'
        clear Qp'
        have Qq' := Lib.hid (Qq.out.below hb Qq.out.lt)
        clear Qq
        have Qq := Qq'
        clear Qq'
        have X' := Lib.hid (X.out.below hb)
        clear X
        have X := X'
        clear X'
        have HB' := Lib.hid (HB.out.trans (hb.mono HB.out.size))
        clear HB
        have HB := HB'
        clear HB'
        clear hb
        have Qr := Lib.hid (QB.new w5 S2 (.slice Ar lr cr) (.slice Br mr dr))
        have zX0 := X.out.c0
        have zX1 := X.out.c1
        have zX2 := X.out.c2
        have zX3 := X.out.c3
        have zX4 := X.out.c4
        have zX5 := X.out.c5
        have zX6 := X.out.c6
        have zQp0 := Qp.out.c0
        have zQp1 := Qp.out.c1
        have zQp2 := Qp.out.c2
        have zQq0 := Qq.out.c0
        have zQq1 := Qq.out.c1
        have zQq2 := Qq.out.c2
        have zQr0 := Qr.out.c0
        have zQr1 := Qr.out.c1
        have zQr2 := Qr.out.c2
        go_wp2_with fail
        generalize w5.alloc (.cells #[.bool S2, (.slice Ar lr cr), (.slice Br mr dr)] 48) = wQr at *
        generalize w5.heap.size = gQr at *
        refine (R2.out _ HB.out).mono ?_
        rintro e w6 ⟨As, ls, cs, Bs, ms, ds, he, hNs, hEs, hb⟩
        subst he
        clear zX0 zX1 zX2 zX3 zX4 zX5 zX6 zQp0 zQp1 zQp2 zQq0 zQq1 zQq2 zQr0 zQr1 zQr2
        have Np' := Lib.hid (Np.out.up hb)
        clear Np
        have Np := Np'
        clear Np'
        have Ep' := Lib.hid (Ep.out.up hb)
        clear Ep
        have Ep := Ep'
        clear Ep'
        have Nq' := Lib.hid (Nq.out.up hb)
        clear Nq
        have Nq := Nq'
        clear Nq'
        have Eq' := Lib.hid (Eq.out.up hb)
        clear Eq
        have Eq := Eq'
        clear Eq'
        have Nr' := Lib.hid (Nr.out.up hb)
        clear Nr
        have Nr := Nr'
        clear Nr'
        have Er' := Lib.hid (Er.out.up hb)
        clear Er
        have Er := Er'
        clear Er'
        have Qp' := Lib.hid (Qp.out.below hb Qp.out.lt)
        clear Qp
        have Qp := Qp'
        clear Qp'
        have Qq' := Lib.hid (Qq.out.below hb Qq.out.lt)
        clear Qq
        have Qq := Qq'
        clear Qq'
        have Qr' := Lib.hid (Qr.out.below hb Qr.out.lt)
        clear Qr
        have Qr := Qr'
        clear Qr'
        have X' := Lib.hid (X.out.below hb)
        clear X
        have X := X'
        clear X'
        have HB' := Lib.hid (HB.out.trans (hb.mono HB.out.size))
        clear HB
        have HB := HB'
        clear HB'
        clear hb
        have Ns := Lib.hid hNs
        clear hNs
        have Es := Lib.hid hEs
        clear hEs
        have neQpQs := Lib.hid (Nat.ne_of_lt Qp.out.lt)
        have neQqQs := Lib.hid (Nat.ne_of_lt Qq.out.lt)
        have neQrQs := Lib.hid (Nat.ne_of_lt Qr.out.lt)
        have neXQs := Lib.hid (Nat.ne_of_lt X.out.lt)
        have geQs := Lib.hid HB.out.size
        have hb := al_below w6 (.cells #[.bool S2, (.slice As ls cs), (.slice Bs ms ds)] 48)
        have Np' := Lib.hid (Np.out.up hb)
        clear Np
        have Np := Np'
        clear Np'
        have Ep' := Lib.hid (Ep.out.up hb)
        clear Ep
        have Ep := Ep'
        clear Ep'
        have Nq' := Lib.hid (Nq.out.up hb)
        clear Nq
        have Nq := Nq'
        clear Nq'
        have Eq' := Lib.hid (Eq.out.up hb)
        clear Eq
        have Eq := Eq'
        clear Eq'
        have Nr' := Lib.hid (Nr.out.up hb)
        clear Nr
        have Nr := Nr'
        clear Nr'
        have Er' := Lib.hid (Er.out.up hb)
        clear Er
        have Er := Er'
        clear Er'
        have Ns' := Lib.hid (Ns.out.up hb)
        clear Ns
        have Ns := Ns'
        clear Ns'
        have Es' := Lib.hid (Es.out.up hb)
        clear Es
        have Es := Es'
        clear Es'
        have Qp' := Lib.hid (Qp.out.below hb Qp.out.lt)
        clear Qp
        have Qp := Qp'
        clear Qp'
        have Qq' := Lib.hid (Qq.out.below hb Qq.out.lt)
        clear Qq
        have Qq := Qq'
        clear Qq'
        have Qr' := Lib.hid (Qr.out.below hb Qr.out.lt)
        clear Qr
        have Qr := Qr'
        clear Qr'
        have X' := Lib.hid (X.out.below hb)
        clear X
        have X := X'
        clear X'
        have HB' := Lib.hid (HB.out.trans (hb.mono HB.out.size))
        clear HB
        have HB := HB'
        clear HB'
        clear hb
        have Qs := Lib.hid (QB.new w6 S2 (.slice As ls cs) (.slice Bs ms ds))
        have zX0 := X.out.c0
        have zX1 := X.out.c1
        have zX2 := X.out.c2
        have zX3 := X.out.c3
        have zX4 := X.out.c4
        have zX5 := X.out.c5
        have zX6 := X.out.c6
        have zQp0 := Qp.out.c0
        have zQp1 := Qp.out.c1
        have zQp2 := Qp.out.c2
        have zQq0 := Qq.out.c0
        have zQq1 := Qq.out.c1
        have zQq2 := Qq.out.c2
        have zQr0 := Qr.out.c0
        have zQr1 := Qr.out.c1
        have zQr2 := Qr.out.c2
        have zQs0 := Qs.out.c0
        have zQs1 := Qs.out.c1
        have zQs2 := Qs.out.c2
        go_wp2_with fail
        generalize w6.alloc (.cells #[.bool S2, (.slice As ls cs), (.slice Bs ms ds)] 48) = wQs at *
        generalize w6.heap.size = gQs at *
        refine (aw_sameQ _ _ _ _ _ _ _ _ Np.out Ep.out Nq.out Eq.out).mono ?_
        rintro e w7 ⟨he, hb⟩
        subst he
        clear zX0 zX1 zX2 zX3 zX4 zX5 zX6 zQp0 zQp1 zQp2 zQq0 zQq1 zQq2 zQr0 zQr1 zQr2 zQs0 zQs1 zQs2
        have Np' := Lib.hid (Np.out.up hb)
        clear Np
        have Np := Np'
        clear Np'
        have Ep' := Lib.hid (Ep.out.up hb)
        clear Ep
        have Ep := Ep'
        clear Ep'
        have Nq' := Lib.hid (Nq.out.up hb)
        clear Nq
        have Nq := Nq'
        clear Nq'
        have Eq' := Lib.hid (Eq.out.up hb)
        clear Eq
        have Eq := Eq'
        clear Eq'
        have Nr' := Lib.hid (Nr.out.up hb)
        clear Nr
        have Nr := Nr'
        clear Nr'
        have Er' := Lib.hid (Er.out.up hb)
        clear Er
        have Er := Er'
        clear Er'
        have Ns' := Lib.hid (Ns.out.up hb)
        clear Ns
        have Ns := Ns'
        clear Ns'
        have Es' := Lib.hid (Es.out.up hb)
        clear Es
        have Es := Es'
        clear Es'
        have Qp' := Lib.hid (Qp.out.below hb Qp.out.lt)
        clear Qp
        have Qp := Qp'
        clear Qp'
        have Qq' := Lib.hid (Qq.out.below hb Qq.out.lt)
        clear Qq
        have Qq := Qq'
        clear Qq'
        have Qr' := Lib.hid (Qr.out.below hb Qr.out.lt)
        clear Qr
        have Qr := Qr'
        clear Qr'
        have Qs' := Lib.hid (Qs.out.below hb Qs.out.lt)
        clear Qs
        have Qs := Qs'
        clear Qs'
        have X' := Lib.hid (X.out.below hb)
        clear X
        have X := X'
        clear X'
        have HB' := Lib.hid (HB.out.trans (hb.mono HB.out.size))
        clear HB
        have HB := HB'
        clear HB'
        clear hb
        have zX0 := X.out.c0
        have zX1 := X.out.c1
        have zX2 := X.out.c2
        have zX3 := X.out.c3
        have zX4 := X.out.c4
        have zX5 := X.out.c5
        have zX6 := X.out.c6
        have zQp0 := Qp.out.c0
        have zQp1 := Qp.out.c1
        have zQp2 := Qp.out.c2
        have zQq0 := Qq.out.c0
        have zQq1 := Qq.out.c1
        have zQq2 := Qq.out.c2
        have zQr0 := Qr.out.c0
        have zQr1 := Qr.out.c1
        have zQr2 := Qr.out.c2
        have zQs0 := Qs.out.c0
        have zQs1 := Qs.out.c1
        have zQs2 := Qs.out.c2
        go_wp2_with fail
        refine (aw_sameQ _ _ _ _ _ _ _ _ Nr.out Er.out Ns.out Es.out).mono ?_
        rintro e w8 ⟨he, hb⟩
        subst he
        clear zX0 zX1 zX2 zX3 zX4 zX5 zX6 zQp0 zQp1 zQp2 zQq0 zQq1 zQq2 zQr0 zQr1 zQr2 zQs0 zQs1 zQs2
        have Np' := Lib.hid (Np.out.up hb)
        clear Np
        have Np := Np'
        clear Np'
        have Ep' := Lib.hid (Ep.out.up hb)
        clear Ep
        have Ep := Ep'
        clear Ep'
        have Nq' := Lib.hid (Nq.out.up hb)
        clear Nq
        have Nq := Nq'
        clear Nq'
        have Eq' := Lib.hid (Eq.out.up hb)
        clear Eq
        have Eq := Eq'
        clear Eq'
        have Nr' := Lib.hid (Nr.out.up hb)
        clear Nr
        have Nr := Nr'
        clear Nr'
        have Er' := Lib.hid (Er.out.up hb)
        clear Er
        have Er := Er'
        clear Er'
        have Ns' := Lib.hid (Ns.out.up hb)
        clear Ns
        have Ns := Ns'
        clear Ns'
        have Es' := Lib.hid (Es.out.up hb)
        clear Es
        have Es := Es'
        clear Es'
        have Qp' := Lib.hid (Qp.out.below hb Qp.out.lt)
        clear Qp
        have Qp := Qp'
        clear Qp'
        have Qq' := Lib.hid (Qq.out.below hb Qq.out.lt)
        clear Qq
        have Qq := Qq'
        clear Qq'
        have Qr' := Lib.hid (Qr.out.below hb Qr.out.lt)
        clear Qr
        have Qr := Qr'
        clear Qr'
        have Qs' := Lib.hid (Qs.out.below hb Qs.out.lt)
        clear Qs
        have Qs := Qs'
        clear Qs'
        have X' := Lib.hid (X.out.below hb)
        clear X
        have X := X'
        clear X'
        have HB' := Lib.hid (HB.out.trans (hb.mono HB.out.size))
        clear HB
        have HB := HB'
        clear HB'
        clear hb
        have zX0 := X.out.c0
        have zX1 := X.out.c1
        have zX2 := X.out.c2
        have zX3 := X.out.c3
        have zX4 := X.out.c4
        have zX5 := X.out.c5
        have zX6 := X.out.c6
        have zQp0 := Qp.out.c0
        have zQp1 := Qp.out.c1
        have zQp2 := Qp.out.c2
        have zQq0 := Qq.out.c0
        have zQq1 := Qq.out.c1
        have zQq2 := Qq.out.c2
        have zQr0 := Qr.out.c0
        have zQr1 := Qr.out.c1
        have zQr2 := Qr.out.c2
        have zQs0 := Qs.out.c0
        have zQs1 := Qs.out.c1
        have zQs2 := Qs.out.c2
        go_wp2_with fail
        refine (awake_any _ (HT.out.below HB.out)).mono ?_
        rintro e w9 ⟨he, hb⟩
        subst he
        clear zX0 zX1 zX2 zX3 zX4 zX5 zX6 zQp0 zQp1 zQp2 zQq0 zQq1 zQq2 zQr0 zQr1 zQr2 zQs0 zQs1 zQs2
        go_wp2_with fail
        go_ret
        exact ⟨rfl, HB.out.trans (hb.mono HB.out.size)⟩
      · have t0 : ¬ 12 < k := by omega
        have t1 : k ≤ 2000 := by omega
        have t2 : k < -12 := by omega
        have t3 : -2000 ≤ k := by omega
        clear p hk1 hk2
        clear G1 G3
        have X := Lib.hid (QX.new (s1 := s1) (n1 := .slice A1 n1 a1) (d1 := .slice B1 m1 b1) (s2 := s2) (n2 := .slice A2 n2 a2) (d2 := .slice B2 m2 b2) (k := k) w)
        have hb := al_below w (.cells #[.bool s1, .slice A1 n1 a1, .slice B1 m1 b1, .bool s2, .slice A2 n2 a2, .slice B2 m2 b2, .int .i64 k] 50)
        have HB' := Lib.hid (HB.out.trans (hb.mono HB.out.size))
        clear HB
        have HB := HB'
        clear HB' hb
        go_enter Tryz.func10, Tryz.ntmps10
        have zX0 := X.out.c0
        have zX1 := X.out.c1
        have zX2 := X.out.c2
        have zX3 := X.out.c3
        have zX4 := X.out.c4
        have zX5 := X.out.c5
        have zX6 := X.out.c6
        go_wp2_with fail
        generalize w.alloc (.cells #[.bool s1, .slice A1 n1 a1, .slice B1 m1 b1, .bool s2, .slice A2 n2 a2, .slice B2 m2 b2, .int .i64 k] 50) = w0 at *
        refine (F3.out false _).mono ?_
        rintro e w1 ⟨he, hb⟩
        subst he
        clear zX0 zX1 zX2 zX3 zX4 zX5 zX6
        have X' := Lib.hid (X.out.below hb)
        clear X
        have X := X'
        clear X'
        have HB' := Lib.hid (HB.out.trans (hb.mono HB.out.size))
        clear HB
        have HB := HB'
        clear HB'
        clear hb
        have zX0 := X.out.c0
        have zX1 := X.out.c1
        have zX2 := X.out.c2
        have zX3 := X.out.c3
        have zX4 := X.out.c4
        have zX5 := X.out.c5
        have zX6 := X.out.c6
        go_wp2_with fail
        refine (F1.out s1 _).mono ?_
        rintro e w2 ⟨he, hb⟩
        subst he
        clear zX0 zX1 zX2 zX3 zX4 zX5 zX6
        have X' := Lib.hid (X.out.below hb)
        clear X
        have X := X'
        clear X'
        have HB' := Lib.hid (HB.out.trans (hb.mono HB.out.size))
        clear HB
        have HB := HB'
        clear HB'
        clear hb
        have zX0 := X.out.c0
        have zX1 := X.out.c1
        have zX2 := X.out.c2
        have zX3 := X.out.c3
        have zX4 := X.out.c4
        have zX5 := X.out.c5
        have zX6 := X.out.c6
        go_wp2_with fail
        refine (awake_any _ (HT.out.below HB.out)).mono ?_
        rintro e w3 ⟨he, hb⟩
        subst he
        clear zX0 zX1 zX2 zX3 zX4 zX5 zX6
        go_wp2_with fail
        go_ret
        exact ⟨rfl, HB.out.trans (hb.mono HB.out.size)⟩
      · have t0 : ¬ 12 < k := by omega
        have t1 : k ≤ 2000 := by omega
        have t2 : k < -12 := by omega
        have t3 : ¬ -2000 ≤ k := by omega
        obtain ⟨h1, h2, h5⟩ := G1.out (by trivial)
        obtain ⟨h3, h4, -⟩ := G3.out (by trivial)
        clear G1 G3
        have hl1 : ln1.length = n1 := by obtain ⟨_, _, e, _⟩ := h1.1.form; injection e with _ e _; exact e.symm
        have hl2 : ld1.length = m1 := by obtain ⟨_, _, e, _⟩ := h2.1.form; injection e with _ e _; exact e.symm
        rw [← hl1, ← hl2] at h5
        have HQ := Lib.hid (show (-12 ≤ k ∧ k ≤ 12) ∨ k < -2000 ∨ 2000 < k by omega)
        have H1 : Hid (∀ W, Below w.heap.size w W → Calls Tryz.prog 64 #[.bool s1, .slice A3 n3 a3, .slice B3 m3 b3] W (QPost W (ratioW s1 ln3 ld3).1 (dg (ratioW s1 ln3 ld3).2.1) (dg (ratioW s1 ln3 ld3).2.2.1) (ratioW s1 ln3 ld3).2.2.2)) := Lib.hid fun W hW => qpost (Ratio_any s1 _ _ ln3 ld3 W (h3.up hW) (h4.up hW)) (small_ratio _ _ _)
        have R1 : Hid (∀ W, Below w.heap.size w W → Calls Tryz.prog 65 #[.bool s1, .slice A3 n3 a3, .slice B3 m3 b3] W (QPost W (ratioW s1 ln3 ld3).1 (dg (ratioW s1 ln3 ld3).2.1) (dg (ratioW s1 ln3 ld3).2.2.1) (ratioW s1 ln3 ld3).2.2.2)) := Lib.hid fun W hW => qpost (rRatio_any s1 _ _ ln3 ld3 W (h3.up hW) (h4.up hW)) (small_ratio _ _ _)
        generalize (ratioW s1 ln3 ld3).2.2.2 = e1 at *
        generalize dg (ratioW s1 ln3 ld3).2.2.1 = D1 at *
        generalize dg (ratioW s1 ln3 ld3).2.1 = N1 at *
        generalize (ratioW s1 ln3 ld3).1 = S1 at *
        have H2 : Hid (∀ W, Below w.heap.size w W → Calls Tryz.prog 66 #[.agg #[.bool s1, .slice A1 n1 a1, .slice B1 m1 b1], .int .i64 k] W (QPost W (qpowW ⟨s1, ln1, ld1⟩ k).1 (dg (qpowW ⟨s1, ln1, ld1⟩ k).2.1) (dg (qpowW ⟨s1, ln1, ld1⟩ k).2.2.1) (qpowW ⟨s1, ln1, ld1⟩ k).2.2.2)) := Lib.hid fun W hW => qpost (QPow_any ⟨s1, ln1, ld1⟩ _ _ k W ⟨h1.up hW, h2.up hW⟩) (small_qpow _ _)
        have R2 : Hid (∀ W, Below w.heap.size w W → Calls Tryz.prog 67 #[.agg #[.bool s1, .slice A1 n1 a1, .slice B1 m1 b1], .int .i64 k] W (QPost W (qpowW ⟨s1, ln1, ld1⟩ k).1 (dg (qpowW ⟨s1, ln1, ld1⟩ k).2.1) (dg (qpowW ⟨s1, ln1, ld1⟩ k).2.2.1) (qpowW ⟨s1, ln1, ld1⟩ k).2.2.2)) := Lib.hid fun W hW => qpost (rQPow_law ⟨s1, ln1, ld1⟩ _ _ k W ⟨h1.up hW, h2.up hW⟩ h5 HQ.out) (small_qpow _ _)
        generalize (qpowW ⟨s1, ln1, ld1⟩ k).2.2.2 = e2 at *
        generalize dg (qpowW ⟨s1, ln1, ld1⟩ k).2.2.1 = D2 at *
        generalize dg (qpowW ⟨s1, ln1, ld1⟩ k).2.1 = N2 at *
        generalize (qpowW ⟨s1, ln1, ld1⟩ k).1 = S2 at *
        clear h1 h2 h3 h4 h5 hl1 hl2 HQ
        clear p hk1 hk2
        have X := Lib.hid (QX.new (s1 := s1) (n1 := .slice A1 n1 a1) (d1 := .slice B1 m1 b1) (s2 := s2) (n2 := .slice A2 n2 a2) (d2 := .slice B2 m2 b2) (k := k) w)
        have hb := al_below w (.cells #[.bool s1, .slice A1 n1 a1, .slice B1 m1 b1, .bool s2, .slice A2 n2 a2, .slice B2 m2 b2, .int .i64 k] 50)
        have HB' := Lib.hid (HB.out.trans (hb.mono HB.out.size))
        clear HB
        have HB := HB'
        clear HB' hb
        go_enter Tryz.func10, Tryz.ntmps10
        have zX0 := X.out.c0
        have zX1 := X.out.c1
        have zX2 := X.out.c2
        have zX3 := X.out.c3
        have zX4 := X.out.c4
        have zX5 := X.out.c5
        have zX6 := X.out.c6
        go_wp2_with fail
        generalize w.alloc (.cells #[.bool s1, .slice A1 n1 a1, .slice B1 m1 b1, .bool s2, .slice A2 n2 a2, .slice B2 m2 b2, .int .i64 k] 50) = w0 at *
        refine (F3.out false _).mono ?_
        rintro e w1 ⟨he, hb⟩
        subst he
        clear zX0 zX1 zX2 zX3 zX4 zX5 zX6
        have X' := Lib.hid (X.out.below hb)
        clear X
        have X := X'
        clear X'
        have HB' := Lib.hid (HB.out.trans (hb.mono HB.out.size))
        clear HB
        have HB := HB'
        clear HB'
        clear hb
        have zX0 := X.out.c0
        have zX1 := X.out.c1
        have zX2 := X.out.c2
        have zX3 := X.out.c3
        have zX4 := X.out.c4
        have zX5 := X.out.c5
        have zX6 := X.out.c6
        go_wp2_with fail
        refine (F1.out s1 _).mono ?_
        rintro e w2 ⟨he, hb⟩
        subst he
        clear zX0 zX1 zX2 zX3 zX4 zX5 zX6
        have X' := Lib.hid (X.out.below hb)
        clear X
        have X := X'
        clear X'
        have HB' := Lib.hid (HB.out.trans (hb.mono HB.out.size))
        clear HB
        have HB := HB'
        clear HB'
        clear hb
        have zX0 := X.out.c0
        have zX1 := X.out.c1
        have zX2 := X.out.c2
        have zX3 := X.out.c3
        have zX4 := X.out.c4
        have zX5 := X.out.c5
        have zX6 := X.out.c6
        go_wp2_with fail
        refine (H1.out _ HB.out).mono ?_
        rintro e w3 ⟨Ap, lp, cp, Bp, mp, dp, he, hNp, hEp, hb⟩
        subst he
        clear zX0 zX1 zX2 zX3 zX4 zX5 zX6
        have X' := Lib.hid (X.out.below hb)
        clear X
        have X := X'
        clear X'
        have HB' := Lib.hid (HB.out.trans (hb.mono HB.out.size))
        clear HB
        have HB := HB'
        clear HB'
        clear hb
        have Np := Lib.hid hNp
        clear hNp
        have Ep := Lib.hid hEp
        clear hEp
        have neXQp := Lib.hid (Nat.ne_of_lt X.out.lt)
        have geQp := Lib.hid HB.out.size
        have hb := al_below w3 (.cells #[.bool S1, (.slice Ap lp cp), (.slice Bp mp dp)] 48)
        have Np' := Lib.hid (Np.out.up hb)
        clear Np
        have Np := Np'
        clear Np'
        have Ep' := Lib.hid (Ep.out.up hb)
        clear Ep
        have Ep := Ep'
        clear Ep'
        have X' := Lib.hid (X.out.below hb)
        clear X
        have X := X'
        clear X'
        have HB' := Lib.hid (HB.out.trans (hb.mono HB.out.size))
        clear HB
        have HB := HB'
        clear HB'
        clear hb
        have Qp := Lib.hid (QB.new w3 S1 (.slice Ap lp cp) (.slice Bp mp dp))
        have zX0 := X.out.c0
        have zX1 := X.out.c1
        have zX2 := X.out.c2
        have zX3 := X.out.c3
        have zX4 := X.out.c4
        have zX5 := X.out.c5
        have zX6 := X.out.c6
        have zQp0 := Qp.out.c0
        have zQp1 := Qp.out.c1
        have zQp2 := Qp.out.c2
        go_wp2_with fail
        generalize w3.alloc (.cells #[.bool S1, (.slice Ap lp cp), (.slice Bp mp dp)] 48) = wQp at *
        generalize w3.heap.size = gQp at *
        refine (R1.out _ HB.out).mono ?_
        rintro e w4 ⟨Aq, lq, cq, Bq, mq, dq, he, hNq, hEq, hb⟩
        subst he
        clear zX0 zX1 zX2 zX3 zX4 zX5 zX6 zQp0 zQp1 zQp2
        have Np' := Lib.hid (Np.out.up hb)
        clear Np
        have Np := Np'
        clear Np'
        have Ep' := Lib.hid (Ep.out.up hb)
        clear Ep
        have Ep := Ep'
        clear Ep'
        have Qp' := Lib.hid (Qp.out.below hb Qp.out.lt)
        clear Qp
        have Qp := Qp'
        clear Qp'
        have X' := Lib.hid (X.out.below hb)
        clear X
        have X := X'
        clear X'
        have HB' := Lib.hid (HB.out.trans (hb.mono HB.out.size))
        clear HB
        have HB := HB'
        clear HB'
        clear hb
        have Nq := Lib.hid hNq
        clear hNq
        have Eq := Lib.hid hEq
        clear hEq
        have neQpQq := Lib.hid (Nat.ne_of_lt Qp.out.lt)
        have neXQq := Lib.hid (Nat.ne_of_lt X.out.lt)
        have geQq := Lib.hid HB.out.size
        have hb := al_below w4 (.cells #[.bool S1, (.slice Aq lq cq), (.slice Bq mq dq)] 48)
        have Np' := Lib.hid (Np.out.up hb)
        clear Np
        have Np := Np'
        clear Np'
        have Ep' := Lib.hid (Ep.out.up hb)
        clear Ep
        have Ep := Ep'
        clear Ep'
        have Nq' := Lib.hid (Nq.out.up hb)
        clear Nq
        have Nq := Nq'
        clear Nq'
        have Eq' := Lib.hid (Eq.out.up hb)
        clear Eq
        have Eq := Eq'
        clear Eq'
        have Qp' := Lib.hid (Qp.out.below hb Qp.out.lt)
        clear Qp
        have Qp := Qp'
        clear Qp'
        have X' := Lib.hid (X.out.below hb)
        clear X
        have X := X'
        clear X'
        have HB' := Lib.hid (HB.out.trans (hb.mono HB.out.size))
        clear HB
        have HB := HB'
        clear HB'
        clear hb
        have Qq := Lib.hid (QB.new w4 S1 (.slice Aq lq cq) (.slice Bq mq dq))
        have zX0 := X.out.c0
        have zX1 := X.out.c1
        have zX2 := X.out.c2
        have zX3 := X.out.c3
        have zX4 := X.out.c4
        have zX5 := X.out.c5
        have zX6 := X.out.c6
        have zQp0 := Qp.out.c0
        have zQp1 := Qp.out.c1
        have zQp2 := Qp.out.c2
        have zQq0 := Qq.out.c0
        have zQq1 := Qq.out.c1
        have zQq2 := Qq.out.c2
        go_wp2_with fail
        generalize w4.alloc (.cells #[.bool S1, (.slice Aq lq cq), (.slice Bq mq dq)] 48) = wQq at *
        generalize w4.heap.size = gQq at *
        refine (H2.out _ HB.out).mono ?_
        rintro e w5 ⟨Ar, lr, cr, Br, mr, dr, he, hNr, hEr, hb⟩
        subst he
        clear zX0 zX1 zX2 zX3 zX4 zX5 zX6 zQp0 zQp1 zQp2 zQq0 zQq1 zQq2
        have Np' := Lib.hid (Np.out.up hb)
        clear Np
        have Np := Np'
        clear Np'
        have Ep' := Lib.hid (Ep.out.up hb)
        clear Ep
        have Ep := Ep'
        clear Ep'
        have Nq' := Lib.hid (Nq.out.up hb)
        clear Nq
        have Nq := Nq'
        clear Nq'
        have Eq' := Lib.hid (Eq.out.up hb)
        clear Eq
        have Eq := Eq'
        clear Eq'
        have Qp' := Lib.hid (Qp.out.below hb Qp.out.lt)
        clear Qp
        have Qp := Qp'
        clear Qp'
        have Qq' := Lib.hid (Qq.out.below hb Qq.out.lt)
        clear Qq
        have Qq := Qq'
        clear Qq'
        have X' := Lib.hid (X.out.below hb)
        clear X
        have X := X'
        clear X'
        have HB' := Lib.hid (HB.out.trans (hb.mono HB.out.size))
        clear HB
        have HB := HB'
        clear HB'
        clear hb
        have Nr := Lib.hid hNr
        clear hNr
        have Er := Lib.hid hEr
        clear hEr
        have neQpQr := Lib.hid (Nat.ne_of_lt Qp.out.lt)
        have neQqQr := Lib.hid (Nat.ne_of_lt Qq.out.lt)
        have neXQr := Lib.hid (Nat.ne_of_lt X.out.lt)
        have geQr := Lib.hid HB.out.size
        have hb := al_below w5 (.cells #[.bool S2, (.slice Ar lr cr), (.slice Br mr dr)] 48)
        have Np' := Lib.hid (Np.out.up hb)
        clear Np
        have Np := Np'
        clear Np'
        have Ep' := Lib.hid (Ep.out.up hb)
        clear Ep
        have Ep := Ep'
        clear Ep'
        have Nq' := Lib.hid (Nq.out.up hb)
        clear Nq
        have Nq := Nq'
        clear Nq'
        have Eq' := Lib.hid (Eq.out.up hb)
        clear Eq
        have Eq := Eq'
        clear Eq'
        have Nr' := Lib.hid (Nr.out.up hb)
        clear Nr
        have Nr := Nr'
        clear Nr'
        have Er' := Lib.hid (Er.out.up hb)
        clear Er
        have Er := Er'
        clear Er'
        have Qp' := Lib.hid (Qp.out.below hb Qp.out.lt)
        clear Qp
        have Qp := Qp'
        clear Qp'
        have Qq' := Lib.hid (Qq.out.below hb Qq.out.lt)
        clear Qq
        have Qq := Qq'
        clear Qq'
        have X' := Lib.hid (X.out.below hb)
        clear X
        have X := X'
        clear X'
        have HB' := Lib.hid (HB.out.trans (hb.mono HB.out.size))
        clear HB
        have HB := HB'
        clear HB'
        clear hb
        have Qr := Lib.hid (QB.new w5 S2 (.slice Ar lr cr) (.slice Br mr dr))
        have zX0 := X.out.c0
        have zX1 := X.out.c1
        have zX2 := X.out.c2
        have zX3 := X.out.c3
        have zX4 := X.out.c4
        have zX5 := X.out.c5
        have zX6 := X.out.c6
        have zQp0 := Qp.out.c0
        have zQp1 := Qp.out.c1
        have zQp2 := Qp.out.c2
        have zQq0 := Qq.out.c0
        have zQq1 := Qq.out.c1
        have zQq2 := Qq.out.c2
        have zQr0 := Qr.out.c0
        have zQr1 := Qr.out.c1
        have zQr2 := Qr.out.c2
        go_wp2_with fail
        generalize w5.alloc (.cells #[.bool S2, (.slice Ar lr cr), (.slice Br mr dr)] 48) = wQr at *
        generalize w5.heap.size = gQr at *
        refine (R2.out _ HB.out).mono ?_
        rintro e w6 ⟨As, ls, cs, Bs, ms, ds, he, hNs, hEs, hb⟩
        subst he
        clear zX0 zX1 zX2 zX3 zX4 zX5 zX6 zQp0 zQp1 zQp2 zQq0 zQq1 zQq2 zQr0 zQr1 zQr2
        have Np' := Lib.hid (Np.out.up hb)
        clear Np
        have Np := Np'
        clear Np'
        have Ep' := Lib.hid (Ep.out.up hb)
        clear Ep
        have Ep := Ep'
        clear Ep'
        have Nq' := Lib.hid (Nq.out.up hb)
        clear Nq
        have Nq := Nq'
        clear Nq'
        have Eq' := Lib.hid (Eq.out.up hb)
        clear Eq
        have Eq := Eq'
        clear Eq'
        have Nr' := Lib.hid (Nr.out.up hb)
        clear Nr
        have Nr := Nr'
        clear Nr'
        have Er' := Lib.hid (Er.out.up hb)
        clear Er
        have Er := Er'
        clear Er'
        have Qp' := Lib.hid (Qp.out.below hb Qp.out.lt)
        clear Qp
        have Qp := Qp'
        clear Qp'
        have Qq' := Lib.hid (Qq.out.below hb Qq.out.lt)
        clear Qq
        have Qq := Qq'
        clear Qq'
        have Qr' := Lib.hid (Qr.out.below hb Qr.out.lt)
        clear Qr
        have Qr := Qr'
        clear Qr'
        have X' := Lib.hid (X.out.below hb)
        clear X
        have X := X'
        clear X'
        have HB' := Lib.hid (HB.out.trans (hb.mono HB.out.size))
        clear HB
        have HB := HB'
        clear HB'
        clear hb
        have Ns := Lib.hid hNs
        clear hNs
        have Es := Lib.hid hEs
        clear hEs
        have neQpQs := Lib.hid (Nat.ne_of_lt Qp.out.lt)
        have neQqQs := Lib.hid (Nat.ne_of_lt Qq.out.lt)
        have neQrQs := Lib.hid (Nat.ne_of_lt Qr.out.lt)
        have neXQs := Lib.hid (Nat.ne_of_lt X.out.lt)
        have geQs := Lib.hid HB.out.size
        have hb := al_below w6 (.cells #[.bool S2, (.slice As ls cs), (.slice Bs ms ds)] 48)
        have Np' := Lib.hid (Np.out.up hb)
        clear Np
        have Np := Np'
        clear Np'
        have Ep' := Lib.hid (Ep.out.up hb)
        clear Ep
        have Ep := Ep'
        clear Ep'
        have Nq' := Lib.hid (Nq.out.up hb)
        clear Nq
        have Nq := Nq'
        clear Nq'
        have Eq' := Lib.hid (Eq.out.up hb)
        clear Eq
        have Eq := Eq'
        clear Eq'
        have Nr' := Lib.hid (Nr.out.up hb)
        clear Nr
        have Nr := Nr'
        clear Nr'
        have Er' := Lib.hid (Er.out.up hb)
        clear Er
        have Er := Er'
        clear Er'
        have Ns' := Lib.hid (Ns.out.up hb)
        clear Ns
        have Ns := Ns'
        clear Ns'
        have Es' := Lib.hid (Es.out.up hb)
        clear Es
        have Es := Es'
        clear Es'
        have Qp' := Lib.hid (Qp.out.below hb Qp.out.lt)
        clear Qp
        have Qp := Qp'
        clear Qp'
        have Qq' := Lib.hid (Qq.out.below hb Qq.out.lt)
        clear Qq
        have Qq := Qq'
        clear Qq'
        have Qr' := Lib.hid (Qr.out.below hb Qr.out.lt)
        clear Qr
        have Qr := Qr'
        clear Qr'
        have X' := Lib.hid (X.out.below hb)
        clear X
        have X := X'
        clear X'
        have HB' := Lib.hid (HB.out.trans (hb.mono HB.out.size))
        clear HB
        have HB := HB'
        clear HB'
        clear hb
        have Qs := Lib.hid (QB.new w6 S2 (.slice As ls cs) (.slice Bs ms ds))
        have zX0 := X.out.c0
        have zX1 := X.out.c1
        have zX2 := X.out.c2
        have zX3 := X.out.c3
        have zX4 := X.out.c4
        have zX5 := X.out.c5
        have zX6 := X.out.c6
        have zQp0 := Qp.out.c0
        have zQp1 := Qp.out.c1
        have zQp2 := Qp.out.c2
        have zQq0 := Qq.out.c0
        have zQq1 := Qq.out.c1
        have zQq2 := Qq.out.c2
        have zQr0 := Qr.out.c0
        have zQr1 := Qr.out.c1
        have zQr2 := Qr.out.c2
        have zQs0 := Qs.out.c0
        have zQs1 := Qs.out.c1
        have zQs2 := Qs.out.c2
        go_wp2_with fail
        generalize w6.alloc (.cells #[.bool S2, (.slice As ls cs), (.slice Bs ms ds)] 48) = wQs at *
        generalize w6.heap.size = gQs at *
        refine (aw_sameQ _ _ _ _ _ _ _ _ Np.out Ep.out Nq.out Eq.out).mono ?_
        rintro e w7 ⟨he, hb⟩
        subst he
        clear zX0 zX1 zX2 zX3 zX4 zX5 zX6 zQp0 zQp1 zQp2 zQq0 zQq1 zQq2 zQr0 zQr1 zQr2 zQs0 zQs1 zQs2
        have Np' := Lib.hid (Np.out.up hb)
        clear Np
        have Np := Np'
        clear Np'
        have Ep' := Lib.hid (Ep.out.up hb)
        clear Ep
        have Ep := Ep'
        clear Ep'
        have Nq' := Lib.hid (Nq.out.up hb)
        clear Nq
        have Nq := Nq'
        clear Nq'
        have Eq' := Lib.hid (Eq.out.up hb)
        clear Eq
        have Eq := Eq'
        clear Eq'
        have Nr' := Lib.hid (Nr.out.up hb)
        clear Nr
        have Nr := Nr'
        clear Nr'
        have Er' := Lib.hid (Er.out.up hb)
        clear Er
        have Er := Er'
        clear Er'
        have Ns' := Lib.hid (Ns.out.up hb)
        clear Ns
        have Ns := Ns'
        clear Ns'
        have Es' := Lib.hid (Es.out.up hb)
        clear Es
        have Es := Es'
        clear Es'
        have Qp' := Lib.hid (Qp.out.below hb Qp.out.lt)
        clear Qp
        have Qp := Qp'
        clear Qp'
        have Qq' := Lib.hid (Qq.out.below hb Qq.out.lt)
        clear Qq
        have Qq := Qq'
        clear Qq'
        have Qr' := Lib.hid (Qr.out.below hb Qr.out.lt)
        clear Qr
        have Qr := Qr'
        clear Qr'
        have Qs' := Lib.hid (Qs.out.below hb Qs.out.lt)
        clear Qs
        have Qs := Qs'
        clear Qs'
        have X' := Lib.hid (X.out.below hb)
        clear X
        have X := X'
        clear X'
        have HB' := Lib.hid (HB.out.trans (hb.mono HB.out.size))
        clear HB
        have HB := HB'
        clear HB'
        clear hb
        have zX0 := X.out.c0
        have zX1 := X.out.c1
        have zX2 := X.out.c2
        have zX3 := X.out.c3
        have zX4 := X.out.c4
        have zX5 := X.out.c5
        have zX6 := X.out.c6
        have zQp0 := Qp.out.c0
        have zQp1 := Qp.out.c1
        have zQp2 := Qp.out.c2
        have zQq0 := Qq.out.c0
        have zQq1 := Qq.out.c1
        have zQq2 := Qq.out.c2
        have zQr0 := Qr.out.c0
        have zQr1 := Qr.out.c1
        have zQr2 := Qr.out.c2
        have zQs0 := Qs.out.c0
        have zQs1 := Qs.out.c1
        have zQs2 := Qs.out.c2
        go_wp2_with fail
        refine (aw_sameQ _ _ _ _ _ _ _ _ Nr.out Er.out Ns.out Es.out).mono ?_
        rintro e w8 ⟨he, hb⟩
        subst he
        clear zX0 zX1 zX2 zX3 zX4 zX5 zX6 zQp0 zQp1 zQp2 zQq0 zQq1 zQq2 zQr0 zQr1 zQr2 zQs0 zQs1 zQs2
        have Np' := Lib.hid (Np.out.up hb)
        clear Np
        have Np := Np'
        clear Np'
        have Ep' := Lib.hid (Ep.out.up hb)
        clear Ep
        have Ep := Ep'
        clear Ep'
        have Nq' := Lib.hid (Nq.out.up hb)
        clear Nq
        have Nq := Nq'
        clear Nq'
        have Eq' := Lib.hid (Eq.out.up hb)
        clear Eq
        have Eq := Eq'
        clear Eq'
        have Nr' := Lib.hid (Nr.out.up hb)
        clear Nr
        have Nr := Nr'
        clear Nr'
        have Er' := Lib.hid (Er.out.up hb)
        clear Er
        have Er := Er'
        clear Er'
        have Ns' := Lib.hid (Ns.out.up hb)
        clear Ns
        have Ns := Ns'
        clear Ns'
        have Es' := Lib.hid (Es.out.up hb)
        clear Es
        have Es := Es'
        clear Es'
        have Qp' := Lib.hid (Qp.out.below hb Qp.out.lt)
        clear Qp
        have Qp := Qp'
        clear Qp'
        have Qq' := Lib.hid (Qq.out.below hb Qq.out.lt)
        clear Qq
        have Qq := Qq'
        clear Qq'
        have Qr' := Lib.hid (Qr.out.below hb Qr.out.lt)
        clear Qr
        have Qr := Qr'
        clear Qr'
        have Qs' := Lib.hid (Qs.out.below hb Qs.out.lt)
        clear Qs
        have Qs := Qs'
        clear Qs'
        have X' := Lib.hid (X.out.below hb)
        clear X
        have X := X'
        clear X'
        have HB' := Lib.hid (HB.out.trans (hb.mono HB.out.size))
        clear HB
        have HB := HB'
        clear HB'
        clear hb
        have zX0 := X.out.c0
        have zX1 := X.out.c1
        have zX2 := X.out.c2
        have zX3 := X.out.c3
        have zX4 := X.out.c4
        have zX5 := X.out.c5
        have zX6 := X.out.c6
        have zQp0 := Qp.out.c0
        have zQp1 := Qp.out.c1
        have zQp2 := Qp.out.c2
        have zQq0 := Qq.out.c0
        have zQq1 := Qq.out.c1
        have zQq2 := Qq.out.c2
        have zQr0 := Qr.out.c0
        have zQr1 := Qr.out.c1
        have zQr2 := Qr.out.c2
        have zQs0 := Qs.out.c0
        have zQs1 := Qs.out.c1
        have zQs2 := Qs.out.c2
        go_wp2_with fail
        refine (awake_any _ (HT.out.below HB.out)).mono ?_
        rintro e w9 ⟨he, hb⟩
        subst he
        clear zX0 zX1 zX2 zX3 zX4 zX5 zX6 zQp0 zQp1 zQp2 zQq0 zQq1 zQq2 zQr0 zQr1 zQr2 zQs0 zQs1 zQs2
        go_wp2_with fail
        go_ret
        exact ⟨rfl, HB.out.trans (hb.mono HB.out.size)⟩
    · clear p
      clear G1 G3
      have X := Lib.hid (QX.new (s1 := s1) (n1 := .slice A1 n1 a1) (d1 := .slice B1 m1 b1) (s2 := s2) (n2 := .slice A2 n2 a2) (d2 := .slice B2 m2 b2) (k := k) w)
      have hb := al_below w (.cells #[.bool s1, .slice A1 n1 a1, .slice B1 m1 b1, .bool s2, .slice A2 n2 a2, .slice B2 m2 b2, .int .i64 k] 50)
      have HB' := Lib.hid (HB.out.trans (hb.mono HB.out.size))
      clear HB
      have HB := HB'
      clear HB' hb
      go_enter Tryz.func10, Tryz.ntmps10
      have zX0 := X.out.c0
      have zX1 := X.out.c1
      have zX2 := X.out.c2
      have zX3 := X.out.c3
      have zX4 := X.out.c4
      have zX5 := X.out.c5
      have zX6 := X.out.c6
      go_wp2_with fail
      generalize w.alloc (.cells #[.bool s1, .slice A1 n1 a1, .slice B1 m1 b1, .bool s2, .slice A2 n2 a2, .slice B2 m2 b2, .int .i64 k] 50) = w0 at *
      refine (F3.out false _).mono ?_
      rintro e w1 ⟨he, hb⟩
      subst he
      clear zX0 zX1 zX2 zX3 zX4 zX5 zX6
      have X' := Lib.hid (X.out.below hb)
      clear X
      have X := X'
      clear X'
      have HB' := Lib.hid (HB.out.trans (hb.mono HB.out.size))
      clear HB
      have HB := HB'
      clear HB'
      clear hb
      have zX0 := X.out.c0
      have zX1 := X.out.c1
      have zX2 := X.out.c2
      have zX3 := X.out.c3
      have zX4 := X.out.c4
      have zX5 := X.out.c5
      have zX6 := X.out.c6
      go_wp2_with fail
      refine (F1.out s1 _).mono ?_
      rintro e w2 ⟨he, hb⟩
      subst he
      clear zX0 zX1 zX2 zX3 zX4 zX5 zX6
      have X' := Lib.hid (X.out.below hb)
      clear X
      have X := X'
      clear X'
      have HB' := Lib.hid (HB.out.trans (hb.mono HB.out.size))
      clear HB
      have HB := HB'
      clear HB'
      clear hb
      have zX0 := X.out.c0
      have zX1 := X.out.c1
      have zX2 := X.out.c2
      have zX3 := X.out.c3
      have zX4 := X.out.c4
      have zX5 := X.out.c5
      have zX6 := X.out.c6
      go_wp2_with fail
      refine (awake_any _ (HT.out.below HB.out)).mono ?_
      rintro e w3 ⟨he, hb⟩
      subst he
      clear zX0 zX1 zX2 zX3 zX4 zX5 zX6
      go_wp2_with fail
      go_ret
      exact ⟨rfl, HB.out.trans (hb.mono HB.out.size)⟩
  · clear F1 G1 G3
    have X := Lib.hid (QX.new (s1 := s1) (n1 := .slice A1 n1 a1) (d1 := .slice B1 m1 b1) (s2 := s2) (n2 := .slice A2 n2 a2) (d2 := .slice B2 m2 b2) (k := k) w)
    have hb := al_below w (.cells #[.bool s1, .slice A1 n1 a1, .slice B1 m1 b1, .bool s2, .slice A2 n2 a2, .slice B2 m2 b2, .int .i64 k] 50)
    have HB' := Lib.hid (HB.out.trans (hb.mono HB.out.size))
    clear HB
    have HB := HB'
    clear HB' hb
    go_enter Tryz.func10, Tryz.ntmps10
    have zX0 := X.out.c0
    have zX1 := X.out.c1
    have zX2 := X.out.c2
    have zX3 := X.out.c3
    have zX4 := X.out.c4
    have zX5 := X.out.c5
    have zX6 := X.out.c6
    go_wp2_with fail
    generalize w.alloc (.cells #[.bool s1, .slice A1 n1 a1, .slice B1 m1 b1, .bool s2, .slice A2 n2 a2, .slice B2 m2 b2, .int .i64 k] 50) = w0 at *
    refine (F3.out false _).mono ?_
    rintro e w1 ⟨he, hb⟩
    subst he
    clear zX0 zX1 zX2 zX3 zX4 zX5 zX6
    have X' := Lib.hid (X.out.below hb)
    clear X
    have X := X'
    clear X'
    have HB' := Lib.hid (HB.out.trans (hb.mono HB.out.size))
    clear HB
    have HB := HB'
    clear HB'
    clear hb
    have zX0 := X.out.c0
    have zX1 := X.out.c1
    have zX2 := X.out.c2
    have zX3 := X.out.c3
    have zX4 := X.out.c4
    have zX5 := X.out.c5
    have zX6 := X.out.c6
    go_wp2_with fail
    refine (awake_any _ (HT.out.below HB.out)).mono ?_
    rintro e w2 ⟨he, hb⟩
    subst he
    clear zX0 zX1 zX2 zX3 zX4 zX5 zX6
    go_wp2_with fail
    go_ret
    exact ⟨rfl, HB.out.trans (hb.mono HB.out.size)⟩
end Go.Proofs.YtlababdfdjjjaaaGreatDoor
