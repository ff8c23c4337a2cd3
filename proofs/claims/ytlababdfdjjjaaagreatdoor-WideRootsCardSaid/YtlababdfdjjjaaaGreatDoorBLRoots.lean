import Derived.Test.YtlababdfdjjjaaaGreatDoorB1
namespace Go.Proofs.YtlababdfdjjjaaaGreatDoor
open Go.RowKit

theorem pow_two_len {m k : Nat} (hk : k ≤ 256) (h : (dg m).length ≤ 60) : (dg (m * 2 ^ k)).length ≤ 70 := by
  have h1 := len_mul m (2 ^ k)
  have h2 := (two_fits (j := k) (M := 9)).2 (by omega)
  omega
theorem root_next {r k a : Nat} (hk : 1 ≤ k) (hk2 : k ≤ 64) (h : r ^ k ≤ a) (ha : (dg a).length ≤ 60) : (dg ((r + 1) ^ k)).length ≤ 70 := by
  rcases Nat.eq_zero_or_pos r with h0 | h0
  · subst h0
    rw [Nat.zero_add, Nat.one_pow, dg_one]; simp
  · have h1 : (r + 1) ^ k ≤ (r * 2) ^ k := Nat.pow_le_pow_left (by omega) k
    rw [Nat.mul_pow] at h1
    have h2 : r ^ k * 2 ^ k ≤ a * 2 ^ k := Nat.mul_le_mul_right _ h
    exact Nat.le_trans (dg_mono (Nat.le_trans h1 h2)) (pow_two_len (by omega) ha)

theorem nShiftM {va : Value} {m k : Nat} {W : World} (ha : Arg W va (dg m)) (h1 : (dg m).length ≤ 512) (hk : k ≤ 20000) :
    Calls Tryz.prog 32 #[va, .int .i64 (-(k : Int))] W fun e w' => ∃ v, e = .returned (.tuple #[v, .int .i64 0]) ∧ Arg w' v (dg (m / 2 ^ k)) ∧ Below W.heap.size W w' := by
  rcases Nat.eq_zero_or_pos k with h | h
  · subst h
    have g := nShift ha (k := 0) h1 (by omega) (by rw [Nat.pow_zero, Nat.mul_one]; exact h1)
    rw [Nat.pow_zero, Nat.mul_one] at g
    rw [Nat.pow_zero, Nat.div_one]
    exact g
  · exact nShiftD ha h1 hk h

set_option maxRecDepth 100000 in
set_option maxHeartbeats 16000000 in
theorem lawWideRoots_any (A : Option Addr) (n1 ca k n a : Nat) (w : World) (hT : Tabs w) (fa : ValOk w A n1 ca a) (hk : k < 256) (hn : n < 256) :
    Calls Tryz.prog 12 #[.slice A n1 ca, .int .u8 (k : Int), .int .u8 (n : Int)] w fun e w' => e = .returned (.bool true) ∧ Below w.heap.size w w' := by
  have HT := Lib.hid hT
  have HB := Lib.hid (Below.refl w.heap.size w)
  obtain ⟨b1, hf1, hg1⟩ := fa
  have F1 := Lib.hid hf1
  have G1 := Lib.hid hg1
  clear hf1 hg1 hT
  cases b1
  · clear G1
    go_enter Tryz.func12, Tryz.ntmps12
    go_wp2_with fail
    refine (F1.out _ HB.out).mono ?_
    rintro e w1 ⟨he, hb⟩
    subst he
    have HB' := Lib.hid (HB.out.trans (hb.mono HB.out.size))
    clear HB
    have HB := HB'
    clear HB'
    clear hb
    go_wp2_with fail
    refine (awake_any _ (HT.out.below HB.out)).mono ?_
    rintro e w2 ⟨he, hb⟩
    subst he
    go_wp2_with fail
    go_ret
    exact ⟨rfl, HB.out.trans (hb.mono HB.out.size)⟩
  obtain ⟨ha, hn1, hl1⟩ := G1.out (by trivial)
  clear G1
  by_cases t1 : (60 : Int) < (n1 : Int)
  · clear ha hn1
    go_enter Tryz.func12, Tryz.ntmps12
    go_wp2_with fail
    refine (F1.out _ HB.out).mono ?_
    rintro e w1 ⟨he, hb⟩
    subst he
    have HB' := Lib.hid (HB.out.trans (hb.mono HB.out.size))
    clear HB
    have HB := HB'
    clear HB'
    clear hb
    go_wp2_with fail
    refine (awake_any _ (HT.out.below HB.out)).mono ?_
    rintro e w2 ⟨he, hb⟩
    subst he
    go_wp2_with fail
    go_ret
    exact ⟨rfl, HB.out.trans (hb.mono HB.out.size)⟩
  subst hn1
  have m1 : (dg a).length ≤ 60 := by omega
  obtain ⟨d, hd⟩ : ∃ d, d = 1 + k % 64 := ⟨_, rfl⟩
  have d1 : 1 ≤ d := by omega
  have d2 : d ≤ 64 := by omega
  have hdI : 1 + (k : Int) % 64 = (d : Int) := by omega
  have X1 := Lib.hid m1
  have FA := Lib.hid ha
  have D1 := Lib.hid d1
  have D2 := Lib.hid d2
  have DI := Lib.hid hdI
  have HN := Lib.hid hn
  clear ha m1 hl1 hd d1 d2
  go_enter Tryz.func12, Tryz.ntmps12
  go_wp2_with fail
  refine (F1.out _ HB.out).mono ?_
  rintro e w1 ⟨he, hb⟩
  subst he
  have FA' := Lib.hid (FA.out.up hb)
  clear FA
  have FA := FA'
  clear FA'
  have HB' := Lib.hid (HB.out.trans (hb.mono HB.out.size))
  clear HB
  have HB := HB'
  clear HB'
  clear hb
  go_wp2_with fail
  refine (nRoot FA.out (by have := X1.out; have := D1.out; have := D2.out; omega) D1.out D2.out).mono ?_
  rintro e w2 ⟨v1, r, he, hR, hr1, hr2, hb⟩
  subst he
  have FA' := Lib.hid (FA.out.up hb)
  clear FA
  have FA := FA'
  clear FA'
  have HB' := Lib.hid (HB.out.trans (hb.mono HB.out.size))
  clear HB
  have HB := HB'
  clear HB'
  clear hb
  have R := Lib.hid hR
  clear hR
  have lr : (dg r).length ≤ 60 := Nat.le_trans (dg_mono (root_under D1.out hr1)) X1.out
  have lp : (dg (r ^ d)).length ≤ 60 := Nat.le_trans (dg_mono hr1) X1.out
  have lq := root_next D1.out D2.out hr1 X1.out
  have ls := pow_two_len (k := n) (by omega) X1.out
  have ln := len_add r 1
  have l1 : (dg 1).length = 1 := by rw [dg_one]; rfl
  obtain ⟨kk, hk, hk0⟩ : ∃ kk : Int, cmpI (r ^ d) a = kk ∧ kk ≤ 0 := by
    rcases Nat.lt_or_ge (r ^ d) a with h2 | h2
    · exact ⟨-1, cmpI_lt h2, by omega⟩
    · exact ⟨0, cmpI_eq (by omega), by omega⟩
  have K1 := Lib.hid hk
  have K2 := Lib.hid (cmpI_gt hr2)
  have Y1 := Lib.hid lr
  have Y2 := Lib.hid lp
  have Y3 := Lib.hid lq
  have Y4 := Lib.hid ls
  have Y5 := Lib.hid ln
  have Y6 := Lib.hid l1
  clear hk hr1 hr2 lr lp lq ls ln l1 hdI
  go_wp2_with fail
  refine (nOne _).mono ?_
  rintro e w3 ⟨v2, he, hO, hb⟩
  subst he
  have FA' := Lib.hid (FA.out.up hb)
  clear FA
  have FA := FA'
  clear FA'
  have R' := Lib.hid (R.out.up hb)
  clear R
  have R := R'
  clear R'
  have HB' := Lib.hid (HB.out.trans (hb.mono HB.out.size))
  clear HB
  have HB := HB'
  clear HB'
  clear hb
  have O := Lib.hid hO
  clear hO
  go_wp2_with fail
  refine (nAdd R.out O.out (by have := X1.out; have := D1.out; have := D2.out; have := Y1.out; have := Y2.out; have := Y3.out; have := Y4.out; have := Y5.out; have := Y6.out; have := HN.out; omega) (by have := X1.out; have := D1.out; have := D2.out; have := Y1.out; have := Y2.out; have := Y3.out; have := Y4.out; have := Y5.out; have := Y6.out; have := HN.out; omega) (by have := X1.out; have := D1.out; have := D2.out; have := Y1.out; have := Y2.out; have := Y3.out; have := Y4.out; have := Y5.out; have := Y6.out; have := HN.out; omega)).mono ?_
  rintro e w4 ⟨v3, he, hNx, hb⟩
  subst he
  have FA' := Lib.hid (FA.out.up hb)
  clear FA
  have FA := FA'
  clear FA'
  have R' := Lib.hid (R.out.up hb)
  clear R
  have R := R'
  clear R'
  have O' := Lib.hid (O.out.up hb)
  clear O
  have O := O'
  clear O'
  have HB' := Lib.hid (HB.out.trans (hb.mono HB.out.size))
  clear HB
  have HB := HB'
  clear HB'
  clear hb
  have Nx := Lib.hid hNx
  clear hNx
  go_wp2_with fail
  refine (nPow R.out (by have := X1.out; have := D1.out; have := D2.out; have := Y1.out; have := Y2.out; have := Y3.out; have := Y4.out; have := Y5.out; have := Y6.out; have := HN.out; omega) (by have := X1.out; have := D1.out; have := D2.out; have := Y1.out; have := Y2.out; have := Y3.out; have := Y4.out; have := Y5.out; have := Y6.out; have := HN.out; omega) (by have := X1.out; have := D1.out; have := D2.out; have := Y1.out; have := Y2.out; have := Y3.out; have := Y4.out; have := Y5.out; have := Y6.out; have := HN.out; omega)).mono ?_
  rintro e w5 ⟨v4, he, hP, hb⟩
  subst he
  have FA' := Lib.hid (FA.out.up hb)
  clear FA
  have FA := FA'
  clear FA'
  have R' := Lib.hid (R.out.up hb)
  clear R
  have R := R'
  clear R'
  have O' := Lib.hid (O.out.up hb)
  clear O
  have O := O'
  clear O'
  have Nx' := Lib.hid (Nx.out.up hb)
  clear Nx
  have Nx := Nx'
  clear Nx'
  have HB' := Lib.hid (HB.out.trans (hb.mono HB.out.size))
  clear HB
  have HB := HB'
  clear HB'
  clear hb
  have P := Lib.hid hP
  clear hP
  go_wp2_with fail
  refine (nPow Nx.out (by have := X1.out; have := D1.out; have := D2.out; have := Y1.out; have := Y2.out; have := Y3.out; have := Y4.out; have := Y5.out; have := Y6.out; have := HN.out; omega) (by have := X1.out; have := D1.out; have := D2.out; have := Y1.out; have := Y2.out; have := Y3.out; have := Y4.out; have := Y5.out; have := Y6.out; have := HN.out; omega) (by have := X1.out; have := D1.out; have := D2.out; have := Y1.out; have := Y2.out; have := Y3.out; have := Y4.out; have := Y5.out; have := Y6.out; have := HN.out; omega)).mono ?_
  rintro e w6 ⟨v5, he, hQ, hb⟩
  subst he
  have FA' := Lib.hid (FA.out.up hb)
  clear FA
  have FA := FA'
  clear FA'
  have R' := Lib.hid (R.out.up hb)
  clear R
  have R := R'
  clear R'
  have O' := Lib.hid (O.out.up hb)
  clear O
  have O := O'
  clear O'
  have Nx' := Lib.hid (Nx.out.up hb)
  clear Nx
  have Nx := Nx'
  clear Nx'
  have P' := Lib.hid (P.out.up hb)
  clear P
  have P := P'
  clear P'
  have HB' := Lib.hid (HB.out.trans (hb.mono HB.out.size))
  clear HB
  have HB := HB'
  clear HB'
  clear hb
  have Q := Lib.hid hQ
  clear hQ
  go_wp2_with fail
  refine ((K1.out ▸ nCmp P.out FA.out (by have := X1.out; have := D1.out; have := D2.out; have := Y1.out; have := Y2.out; have := Y3.out; have := Y4.out; have := Y5.out; have := Y6.out; have := HN.out; omega) (by have := X1.out; have := D1.out; have := D2.out; have := Y1.out; have := Y2.out; have := Y3.out; have := Y4.out; have := Y5.out; have := Y6.out; have := HN.out; omega) : Calls _ _ _ _ (fun e w' => e = .returned (.tuple #[.int .i64 kk, .int .i64 0]) ∧ Below _ _ w'))).mono ?_
  rintro e w7 ⟨he, hb⟩
  subst he
  have FA' := Lib.hid (FA.out.up hb)
  clear FA
  have FA := FA'
  clear FA'
  have R' := Lib.hid (R.out.up hb)
  clear R
  have R := R'
  clear R'
  have O' := Lib.hid (O.out.up hb)
  clear O
  have O := O'
  clear O'
  have Nx' := Lib.hid (Nx.out.up hb)
  clear Nx
  have Nx := Nx'
  clear Nx'
  have P' := Lib.hid (P.out.up hb)
  clear P
  have P := P'
  clear P'
  have Q' := Lib.hid (Q.out.up hb)
  clear Q
  have Q := Q'
  clear Q'
  have HB' := Lib.hid (HB.out.trans (hb.mono HB.out.size))
  clear HB
  have HB := HB'
  clear HB'
  clear hb
  go_wp2_with fail
  refine ((K2.out ▸ nCmp Q.out FA.out (by have := X1.out; have := D1.out; have := D2.out; have := Y1.out; have := Y2.out; have := Y3.out; have := Y4.out; have := Y5.out; have := Y6.out; have := HN.out; omega) (by have := X1.out; have := D1.out; have := D2.out; have := Y1.out; have := Y2.out; have := Y3.out; have := Y4.out; have := Y5.out; have := Y6.out; have := HN.out; omega) : Calls _ _ _ _ (fun e w' => e = .returned (.tuple #[.int .i64 1, .int .i64 0]) ∧ Below _ _ w'))).mono ?_
  rintro e w8 ⟨he, hb⟩
  subst he
  have FA' := Lib.hid (FA.out.up hb)
  clear FA
  have FA := FA'
  clear FA'
  have R' := Lib.hid (R.out.up hb)
  clear R
  have R := R'
  clear R'
  have O' := Lib.hid (O.out.up hb)
  clear O
  have O := O'
  clear O'
  have Nx' := Lib.hid (Nx.out.up hb)
  clear Nx
  have Nx := Nx'
  clear Nx'
  have P' := Lib.hid (P.out.up hb)
  clear P
  have P := P'
  clear P'
  have Q' := Lib.hid (Q.out.up hb)
  clear Q
  have Q := Q'
  clear Q'
  have HB' := Lib.hid (HB.out.trans (hb.mono HB.out.size))
  clear HB
  have HB := HB'
  clear HB'
  clear hb
  go_wp2_with fail
  refine (nShift (k := n) FA.out (by have := X1.out; have := D1.out; have := D2.out; have := Y1.out; have := Y2.out; have := Y3.out; have := Y4.out; have := Y5.out; have := Y6.out; have := HN.out; omega) (by have := X1.out; have := D1.out; have := D2.out; have := Y1.out; have := Y2.out; have := Y3.out; have := Y4.out; have := Y5.out; have := Y6.out; have := HN.out; omega) (by have := X1.out; have := D1.out; have := D2.out; have := Y1.out; have := Y2.out; have := Y3.out; have := Y4.out; have := Y5.out; have := Y6.out; have := HN.out; omega)).mono ?_
  rintro e w9 ⟨v6, he, hS, hb⟩
  subst he
  have FA' := Lib.hid (FA.out.up hb)
  clear FA
  have FA := FA'
  clear FA'
  have R' := Lib.hid (R.out.up hb)
  clear R
  have R := R'
  clear R'
  have O' := Lib.hid (O.out.up hb)
  clear O
  have O := O'
  clear O'
  have Nx' := Lib.hid (Nx.out.up hb)
  clear Nx
  have Nx := Nx'
  clear Nx'
  have P' := Lib.hid (P.out.up hb)
  clear P
  have P := P'
  clear P'
  have Q' := Lib.hid (Q.out.up hb)
  clear Q
  have Q := Q'
  clear Q'
  have HB' := Lib.hid (HB.out.trans (hb.mono HB.out.size))
  clear HB
  have HB := HB'
  clear HB'
  clear hb
  have S := Lib.hid hS
  clear hS
  go_wp2_with fail
  refine (nShiftM (k := n) S.out (by have := X1.out; have := D1.out; have := D2.out; have := Y1.out; have := Y2.out; have := Y3.out; have := Y4.out; have := Y5.out; have := Y6.out; have := HN.out; omega) (by have := X1.out; have := D1.out; have := D2.out; have := Y1.out; have := Y2.out; have := Y3.out; have := Y4.out; have := Y5.out; have := Y6.out; have := HN.out; omega)).mono ?_
  rintro e w10 ⟨v7, he, hTt, hb⟩
  subst he
  have FA' := Lib.hid (FA.out.up hb)
  clear FA
  have FA := FA'
  clear FA'
  have R' := Lib.hid (R.out.up hb)
  clear R
  have R := R'
  clear R'
  have O' := Lib.hid (O.out.up hb)
  clear O
  have O := O'
  clear O'
  have Nx' := Lib.hid (Nx.out.up hb)
  clear Nx
  have Nx := Nx'
  clear Nx'
  have P' := Lib.hid (P.out.up hb)
  clear P
  have P := P'
  clear P'
  have Q' := Lib.hid (Q.out.up hb)
  clear Q
  have Q := Q'
  clear Q'
  have S' := Lib.hid (S.out.up hb)
  clear S
  have S := S'
  clear S'
  have HB' := Lib.hid (HB.out.trans (hb.mono HB.out.size))
  clear HB
  have HB := HB'
  clear HB'
  clear hb
  have Tt := Lib.hid hTt
  clear hTt
  go_wp2_with fail
  rw [Nat.mul_div_cancel _ (Nat.pow_pos (by omega))] at Tt
  refine (aw_same _ _ _ _ Tt.out FA.out).mono ?_
  rintro e w11 ⟨he, hb⟩
  subst he
  have FA' := Lib.hid (FA.out.up hb)
  clear FA
  have FA := FA'
  clear FA'
  have R' := Lib.hid (R.out.up hb)
  clear R
  have R := R'
  clear R'
  have O' := Lib.hid (O.out.up hb)
  clear O
  have O := O'
  clear O'
  have Nx' := Lib.hid (Nx.out.up hb)
  clear Nx
  have Nx := Nx'
  clear Nx'
  have P' := Lib.hid (P.out.up hb)
  clear P
  have P := P'
  clear P'
  have Q' := Lib.hid (Q.out.up hb)
  clear Q
  have Q := Q'
  clear Q'
  have S' := Lib.hid (S.out.up hb)
  clear S
  have S := S'
  clear S'
  have Tt' := Lib.hid (Tt.out.up hb)
  clear Tt
  have Tt := Tt'
  clear Tt'
  have HB' := Lib.hid (HB.out.trans (hb.mono HB.out.size))
  clear HB
  have HB := HB'
  clear HB'
  clear hb
  go_wp2_with fail
  refine (awake_any _ (HT.out.below HB.out)).mono ?_
  rintro e w12 ⟨he, hb⟩
  subst he
  go_wp2_with fail
  go_ret
  exact ⟨rfl, HB.out.trans (hb.mono HB.out.size)⟩
end Go.Proofs.YtlababdfdjjjaaaGreatDoor
