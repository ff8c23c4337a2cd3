import Derived.Test.YtlababdfdjjjaaaGreatDoorF3
import Derived.Test.YtlababdfdjjjaaaGreatDoorB3
namespace Go.Proofs.YtlababdfdjjjaaaGreatDoor
open Go.RowKit

theorem max_four (a b c d : Int) : ∃ M : Int, (∀ (P : Program) (w : World) (ts : Array TypeId) (t : TypeId), (Builtin.max_ ts t #[.int .i64 a, .int .i64 b, .int .i64 c, .int .i64 d]).run P w = .ok (.int .i64 M) w) ∧ (M ≤ 8 ↔ a ≤ 8 ∧ b ≤ 8 ∧ c ≤ 8 ∧ d ≤ 8) := by
  obtain ⟨x, hx⟩ : ∃ x, x = (if b > a then b else a) := ⟨_, rfl⟩
  obtain ⟨y, hy⟩ : ∃ y, y = (if c > x then c else x) := ⟨_, rfl⟩
  obtain ⟨z, hz⟩ : ∃ z, z = (if d > y then d else y) := ⟨_, rfl⟩
  refine ⟨z, fun P w ts t => ?_, ?_⟩
  · subst hz hy hx
    simp [Builtin.max_, Builtin.max2]
  · by_cases h1 : b > a <;> by_cases h2 : c > x <;> by_cases h3 : d > y <;> simp only [h1, h2, h3, if_true, if_false] at hx hy hz <;> omega
theorem natmul (a b : Nat) : ((a * b : Nat) : Int) = (a : Int) * (b : Int) := Int.natCast_mul a b
theorem floor_fq {w : World} {N : Int} {D : Nat} {s : Bool} {vn vd : Value} (hs : s = decide (N < 0)) (hD : D ≠ 0) (h1 : Num w w.heap.size vn (N / (D : Int)).natAbs) (h2 : Num w w.heap.size vd 1) (hl : (dg N.natAbs).length ≤ 8) : FQ w 8 s vn vd (N / (D : Int)) 1 := by
  refine ⟨?_, h1, h2, by omega, Nat.gcd_one_right _, Nat.le_trans (dg_mono (floor_small N D hD)) hl, by rw [dg_one]; simp⟩
  rw [hs]
  congr 1
  rcases (show N < 0 ∨ 0 ≤ N by omega) with h | h
  · exact propext ⟨fun _ => Int.ediv_neg_of_neg_of_pos h (by omega), fun _ => h⟩
  · have := Int.ediv_nonneg (b := (D : Int)) h (by omega)
    exact propext ⟨fun h2 => by omega, fun h2 => by omega⟩
theorem one_fq {w : World} {A B : Option Addr} {l c m d : Nat} (h1 : Arg w (.slice A l c) [1]) (h2 : Arg w (.slice B m d) [1]) : FQ w 8 false (.slice A l c) (.slice B m d) 1 1 :=
  ⟨rfl, arg_num h1 1 dg_one.symm, arg_num h2 1 dg_one.symm, by omega, rfl, by rw [show (1 : Int).natAbs = 1 from rfl, dg_one]; simp, by rw [dg_one]; simp⟩
theorem rest_small {N P : Int} {D E : Nat} (hD : D ≠ 0) (hE : E ≠ 0) (h : P * ((D * 1 : Nat) : Int) = (N * ((1 : Nat) : Int) - N / (D : Int) * (D : Int)) * (E : Int)) : 0 ≤ P ∧ P * ((1 : Nat) : Int) < ((1 : Nat) : Int) * (E : Int) := by
  have hd : (0 : Int) < (D : Int) := by omega
  have he : (0 : Int) < (E : Int) := by omega
  have e1 : N * ((1 : Nat) : Int) - N / (D : Int) * (D : Int) = N % (D : Int) := by
    have := Int.mul_ediv_add_emod N (D : Int)
    rw [Int.mul_comm (N / (D : Int))]
    omega
  rw [e1, Nat.mul_one] at h
  have r0 := Int.emod_nonneg N (show (D : Int) ≠ 0 by omega)
  have r1 := Int.emod_lt_of_pos N hd
  generalize N % (D : Int) = r at *
  constructor
  · rcases (show P < 0 ∨ 0 ≤ P by omega) with hp | hp
    · have a := Int.mul_neg_of_neg_of_pos hp hd
      have b := Int.mul_nonneg r0 (Int.le_of_lt he)
      omega
    · exact hp
  · rcases (show P < (E : Int) ∨ (E : Int) ≤ P by omega) with hp | hp
    · omega
    · have a : (E : Int) * (D : Int) ≤ P * (D : Int) := Int.mul_le_mul_of_nonneg_right hp (Int.le_of_lt hd)
      have b : r * (E : Int) < (D : Int) * (E : Int) := Int.mul_lt_mul_of_pos_right r1 he
      rw [Int.mul_comm (D : Int)] at b
      omega

set_option maxRecDepth 100000 in
set_option maxHeartbeats 32000000 in
theorem mainWideField_any (s1 s2 : Bool) (A1 B1 A2 B2 : Option Addr) (n1 a1 m1 b1 n2 a2 m2 b2 : Nat) (k : Int) (N1 N2 : Int) (D1 D2 : Nat) (w : World) (hT : Tabs w) (f1 : FQ w 8 s1 (.slice A1 n1 a1) (.slice B1 m1 b1) N1 D1) (f2 : FQ w 8 s2 (.slice A2 n2 a2) (.slice B2 m2 b2) N2 D2) (hM : n1 ≤ 8 ∧ m1 ≤ 8 ∧ n2 ≤ 8 ∧ m2 ≤ 8)
    (hp1 : ∀ W, Below w.heap.size w W → Calls Tryz.prog 62 #[.agg #[.bool s1, .slice A1 n1 a1, .slice B1 m1 b1]] W fun e w' => e = .returned (.bool true) ∧ Below W.heap.size W w') (hp2 : ∀ W, Below w.heap.size w W → Calls Tryz.prog 62 #[.agg #[.bool s2, .slice A2 n2 a2, .slice B2 m2 b2]] W fun e w' => e = .returned (.bool true) ∧ Below W.heap.size W w') :
    Calls Tryz.prog 14 #[.agg #[.bool s1, .slice A1 n1 a1, .slice B1 m1 b1, .bool s2, .slice A2 n2 a2, .slice B2 m2 b2, .int .i64 k]] w fun e w' => e = .returned (.bool true) ∧ Below w.heap.size w w' := by
  have HT := Lib.hid hT
  have HB := Lib.hid (Below.refl w.heap.size w)
  have HP1 := Lib.hid hp1
  have HP2 := Lib.hid hp2
  have F1 := Lib.hid f1
  have F2 := Lib.hid f2
  have hn2 : (dg N2.natAbs).length = n2 := by obtain ⟨_, _, e, _⟩ := f2.num.form; injection e with _ e _; exact e.symm
  have hz2 : n2 = 0 ↔ N2 = 0 := by
    rw [← hn2]
    constructor
    · intro h; have := dg_zero_iff.1 h; omega
    · intro h; rw [h]; simp [dg_zero]
  have E1 := Lib.hid f1.ne
  have E2 := Lib.hid f2.ne
  have HZ2 := Lib.hid hz2
  clear hT hp1 hp2 f1 f2 hn2 hz2
  obtain ⟨M, hmx0, hM8⟩ := max_four (n1 : Int) (m1 : Int) (n2 : Int) (m2 : Int)
  have hmx := fun w ts t => hmx0 Tryz.prog w ts t
  have t8 : ¬ 8 < M := by omega
  clear hmx0 hM8 hM
  have X := Lib.hid (QX.new (s1 := s1) (n1 := .slice A1 n1 a1) (d1 := .slice B1 m1 b1) (s2 := s2) (n2 := .slice A2 n2 a2) (d2 := .slice B2 m2 b2) (k := k) w)
  have hb := al_below w (.cells #[.bool s1, .slice A1 n1 a1, .slice B1 m1 b1, .bool s2, .slice A2 n2 a2, .slice B2 m2 b2, .int .i64 k] 50)
  have F1' := Lib.hid (F1.out.up hb)
  clear F1
  have F1 := F1'
  clear F1'
  have F2' := Lib.hid (F2.out.up hb)
  clear F2
  have F2 := F2'
  clear F2'
  have HB' := Lib.hid (HB.out.trans (hb.mono HB.out.size))
  clear HB
  have HB := HB'
  clear HB' hb
  go_enter Tryz.func14, Tryz.ntmps14
  have zX0 := X.out.c0
  have zX1 := X.out.c1
  have zX2 := X.out.c2
  have zX3 := X.out.c3
  have zX4 := X.out.c4
  have zX5 := X.out.c5
  have zX6 := X.out.c6
  go_wp2_with fail
  generalize w.alloc (.cells #[.bool s1, .slice A1 n1 a1, .slice B1 m1 b1, .bool s2, .slice A2 n2 a2, .slice B2 m2 b2, .int .i64 k] 50) = w0 at *
  clear hmx
  refine (HP1.out _ HB.out).mono ?_
  rintro e w1 ⟨he, hb⟩
  subst he
  clear zX0 zX1 zX2 zX3 zX4 zX5 zX6
  have F1' := Lib.hid (F1.out.up hb)
  clear F1
  have F1 := F1'
  clear F1'
  have F2' := Lib.hid (F2.out.up hb)
  clear F2
  have F2 := F2'
  clear F2'
  have X' := Lib.hid (X.out.below hb)
  clear X
  have X := X'
  clear X'
  have HB' := Lib.hid (HB.out.trans (hb.mono HB.out.size))
  clear HB
  have HB := HB'
  clear HB'
  clear hb
  have zX0 := X.out.c0
  have zX1 := X.out.c1
  have zX2 := X.out.c2
  have zX3 := X.out.c3
  have zX4 := X.out.c4
  have zX5 := X.out.c5
  have zX6 := X.out.c6
  go_wp2_with fail
  refine (HP2.out _ HB.out).mono ?_
  rintro e w2 ⟨he, hb⟩
  subst he
  clear zX0 zX1 zX2 zX3 zX4 zX5 zX6
  have F1' := Lib.hid (F1.out.up hb)
  clear F1
  have F1 := F1'
  clear F1'
  have F2' := Lib.hid (F2.out.up hb)
  clear F2
  have F2 := F2'
  clear F2'
  have X' := Lib.hid (X.out.below hb)
  clear X
  have X := X'
  clear X'
  have HB' := Lib.hid (HB.out.trans (hb.mono HB.out.size))
  clear HB
  have HB := HB'
  clear HB'
  clear hb
  have zX0 := X.out.c0
  have zX1 := X.out.c1
  have zX2 := X.out.c2
  have zX3 := X.out.c3
  have zX4 := X.out.c4
  have zX5 := X.out.c5
  have zX6 := X.out.c6
  go_wp2_with fail
  refine (pfadd F1.out F2.out (by omega)).mono ?_
  rintro e w3 ⟨ss, As, ls, cs, Bs, ms, ds, Ns, Ds, he, hFs, hPs, hb⟩
  subst he
  clear zX0 zX1 zX2 zX3 zX4 zX5 zX6
  have F1' := Lib.hid (F1.out.up hb)
  clear F1
  have F1 := F1'
  clear F1'
  have F2' := Lib.hid (F2.out.up hb)
  clear F2
  have F2 := F2'
  clear F2'
  have X' := Lib.hid (X.out.below hb)
  clear X
  have X := X'
  clear X'
  have HB' := Lib.hid (HB.out.trans (hb.mono HB.out.size))
  clear HB
  have HB := HB'
  clear HB'
  clear hb
  have Fs := Lib.hid hFs
  have Ps := Lib.hid hPs
  clear hFs hPs
  have neXQs := Lib.hid (Nat.ne_of_lt X.out.lt)
  have geQs := Lib.hid HB.out.size
  have hb := al_below w3 (.cells #[.bool ss, (.slice As ls cs), (.slice Bs ms ds)] 48)
  have F1' := Lib.hid (F1.out.up hb)
  clear F1
  have F1 := F1'
  clear F1'
  have F2' := Lib.hid (F2.out.up hb)
  clear F2
  have F2 := F2'
  clear F2'
  have Fs' := Lib.hid (Fs.out.up hb)
  clear Fs
  have Fs := Fs'
  clear Fs'
  have X' := Lib.hid (X.out.below hb)
  clear X
  have X := X'
  clear X'
  have HB' := Lib.hid (HB.out.trans (hb.mono HB.out.size))
  clear HB
  have HB := HB'
  clear HB'
  clear hb
  have Qs := Lib.hid (QB.new w3 ss (.slice As ls cs) (.slice Bs ms ds))
  have zX0 := X.out.c0
  have zX1 := X.out.c1
  have zX2 := X.out.c2
  have zX3 := X.out.c3
  have zX4 := X.out.c4
  have zX5 := X.out.c5
  have zX6 := X.out.c6
  have zQs0 := Qs.out.c0
  have zQs1 := Qs.out.c1
  have zQs2 := Qs.out.c2
  go_wp2_with fail
  generalize w3.alloc (.cells #[.bool ss, (.slice As ls cs), (.slice Bs ms ds)] 48) = wQs at *
  generalize w3.heap.size = gQs at *
  refine (pfsub Fs.out (F2.out.more (by omega)) (by omega)).mono ?_
  rintro e w4 ⟨sa, Aa, la, ca, Ba, ma, da, Na, Da, he, hFa, hPa, hb⟩
  subst he
  clear zX0 zX1 zX2 zX3 zX4 zX5 zX6 zQs0 zQs1 zQs2
  have F1' := Lib.hid (F1.out.up hb)
  clear F1
  have F1 := F1'
  clear F1'
  have F2' := Lib.hid (F2.out.up hb)
  clear F2
  have F2 := F2'
  clear F2'
  have Fs' := Lib.hid (Fs.out.up hb)
  clear Fs
  have Fs := Fs'
  clear Fs'
  have Qs' := Lib.hid (Qs.out.below hb Qs.out.lt)
  clear Qs
  have Qs := Qs'
  clear Qs'
  have X' := Lib.hid (X.out.below hb)
  clear X
  have X := X'
  clear X'
  have HB' := Lib.hid (HB.out.trans (hb.mono HB.out.size))
  clear HB
  have HB := HB'
  clear HB'
  clear hb
  have Fa := Lib.hid hFa
  have Pa := Lib.hid hPa
  clear hFa hPa
  have neQsQa := Lib.hid (Nat.ne_of_lt Qs.out.lt)
  have neXQa := Lib.hid (Nat.ne_of_lt X.out.lt)
  have geQa := Lib.hid HB.out.size
  have hb := al_below w4 (.cells #[.bool sa, (.slice Aa la ca), (.slice Ba ma da)] 48)
  have F1' := Lib.hid (F1.out.up hb)
  clear F1
  have F1 := F1'
  clear F1'
  have F2' := Lib.hid (F2.out.up hb)
  clear F2
  have F2 := F2'
  clear F2'
  have Fs' := Lib.hid (Fs.out.up hb)
  clear Fs
  have Fs := Fs'
  clear Fs'
  have Fa' := Lib.hid (Fa.out.up hb)
  clear Fa
  have Fa := Fa'
  clear Fa'
  have Qs' := Lib.hid (Qs.out.below hb Qs.out.lt)
  clear Qs
  have Qs := Qs'
  clear Qs'
  have X' := Lib.hid (X.out.below hb)
  clear X
  have X := X'
  clear X'
  have HB' := Lib.hid (HB.out.trans (hb.mono HB.out.size))
  clear HB
  have HB := HB'
  clear HB'
  clear hb
  have Qa := Lib.hid (QB.new w4 sa (.slice Aa la ca) (.slice Ba ma da))
  have zX0 := X.out.c0
  have zX1 := X.out.c1
  have zX2 := X.out.c2
  have zX3 := X.out.c3
  have zX4 := X.out.c4
  have zX5 := X.out.c5
  have zX6 := X.out.c6
  have zQs0 := Qs.out.c0
  have zQs1 := Qs.out.c1
  have zQs2 := Qs.out.c2
  have zQa0 := Qa.out.c0
  have zQa1 := Qa.out.c1
  have zQa2 := Qa.out.c2
  go_wp2_with fail
  generalize w4.alloc (.cells #[.bool sa, (.slice Aa la ca), (.slice Ba ma da)] 48) = wQa at *
  generalize w4.heap.size = gQa at *
  refine (pfmul F1.out F2.out (by omega)).mono ?_
  rintro e w5 ⟨sp, Ap, lp, cp, Bp, mp, dp, Np, Dp, he, hFp, hPp, hb⟩
  subst he
  clear zX0 zX1 zX2 zX3 zX4 zX5 zX6 zQs0 zQs1 zQs2 zQa0 zQa1 zQa2
  have F1' := Lib.hid (F1.out.up hb)
  clear F1
  have F1 := F1'
  clear F1'
  have F2' := Lib.hid (F2.out.up hb)
  clear F2
  have F2 := F2'
  clear F2'
  have Fs' := Lib.hid (Fs.out.up hb)
  clear Fs
  have Fs := Fs'
  clear Fs'
  have Fa' := Lib.hid (Fa.out.up hb)
  clear Fa
  have Fa := Fa'
  clear Fa'
  have Qs' := Lib.hid (Qs.out.below hb Qs.out.lt)
  clear Qs
  have Qs := Qs'
  clear Qs'
  have Qa' := Lib.hid (Qa.out.below hb Qa.out.lt)
  clear Qa
  have Qa := Qa'
  clear Qa'
  have X' := Lib.hid (X.out.below hb)
  clear X
  have X := X'
  clear X'
  have HB' := Lib.hid (HB.out.trans (hb.mono HB.out.size))
  clear HB
  have HB := HB'
  clear HB'
  clear hb
  have Fp := Lib.hid hFp
  have Pp := Lib.hid hPp
  clear hFp hPp
  have neQsQp := Lib.hid (Nat.ne_of_lt Qs.out.lt)
  have neQaQp := Lib.hid (Nat.ne_of_lt Qa.out.lt)
  have neXQp := Lib.hid (Nat.ne_of_lt X.out.lt)
  have geQp := Lib.hid HB.out.size
  have hb := al_below w5 (.cells #[.bool sp, (.slice Ap lp cp), (.slice Bp mp dp)] 48)
  have F1' := Lib.hid (F1.out.up hb)
  clear F1
  have F1 := F1'
  clear F1'
  have F2' := Lib.hid (F2.out.up hb)
  clear F2
  have F2 := F2'
  clear F2'
  have Fs' := Lib.hid (Fs.out.up hb)
  clear Fs
  have Fs := Fs'
  clear Fs'
  have Fa' := Lib.hid (Fa.out.up hb)
  clear Fa
  have Fa := Fa'
  clear Fa'
  have Fp' := Lib.hid (Fp.out.up hb)
  clear Fp
  have Fp := Fp'
  clear Fp'
  have Qs' := Lib.hid (Qs.out.below hb Qs.out.lt)
  clear Qs
  have Qs := Qs'
  clear Qs'
  have Qa' := Lib.hid (Qa.out.below hb Qa.out.lt)
  clear Qa
  have Qa := Qa'
  clear Qa'
  have X' := Lib.hid (X.out.below hb)
  clear X
  have X := X'
  clear X'
  have HB' := Lib.hid (HB.out.trans (hb.mono HB.out.size))
  clear HB
  have HB := HB'
  clear HB'
  clear hb
  have Qp := Lib.hid (QB.new w5 sp (.slice Ap lp cp) (.slice Bp mp dp))
  have zX0 := X.out.c0
  have zX1 := X.out.c1
  have zX2 := X.out.c2
  have zX3 := X.out.c3
  have zX4 := X.out.c4
  have zX5 := X.out.c5
  have zX6 := X.out.c6
  have zQs0 := Qs.out.c0
  have zQs1 := Qs.out.c1
  have zQs2 := Qs.out.c2
  have zQa0 := Qa.out.c0
  have zQa1 := Qa.out.c1
  have zQa2 := Qa.out.c2
  have zQp0 := Qp.out.c0
  have zQp1 := Qp.out.c1
  have zQp2 := Qp.out.c2
  go_wp2_with fail
  generalize w5.alloc (.cells #[.bool sp, (.slice Ap lp cp), (.slice Bp mp dp)] 48) = wQp at *
  generalize w5.heap.size = gQp at *
  refine (pfmul Fs.out F2.out (by omega)).mono ?_
  rintro e w6 ⟨su, Au, lu, cu, Bu, mu, du, Nu, Du, he, hFu, hPu, hb⟩
  subst he
  clear zX0 zX1 zX2 zX3 zX4 zX5 zX6 zQs0 zQs1 zQs2 zQa0 zQa1 zQa2 zQp0 zQp1 zQp2
  have F1' := Lib.hid (F1.out.up hb)
  clear F1
  have F1 := F1'
  clear F1'
  have F2' := Lib.hid (F2.out.up hb)
  clear F2
  have F2 := F2'
  clear F2'
  have Fs' := Lib.hid (Fs.out.up hb)
  clear Fs
  have Fs := Fs'
  clear Fs'
  have Fa' := Lib.hid (Fa.out.up hb)
  clear Fa
  have Fa := Fa'
  clear Fa'
  have Fp' := Lib.hid (Fp.out.up hb)
  clear Fp
  have Fp := Fp'
  clear Fp'
  have Qs' := Lib.hid (Qs.out.below hb Qs.out.lt)
  clear Qs
  have Qs := Qs'
  clear Qs'
  have Qa' := Lib.hid (Qa.out.below hb Qa.out.lt)
  clear Qa
  have Qa := Qa'
  clear Qa'
  have Qp' := Lib.hid (Qp.out.below hb Qp.out.lt)
  clear Qp
  have Qp := Qp'
  clear Qp'
  have X' := Lib.hid (X.out.below hb)
  clear X
  have X := X'
  clear X'
  have HB' := Lib.hid (HB.out.trans (hb.mono HB.out.size))
  clear HB
  have HB := HB'
  clear HB'
  clear hb
  have Fu := Lib.hid hFu
  have Pu := Lib.hid hPu
  clear hFu hPu
  have neQsQu := Lib.hid (Nat.ne_of_lt Qs.out.lt)
  have neQaQu := Lib.hid (Nat.ne_of_lt Qa.out.lt)
  have neQpQu := Lib.hid (Nat.ne_of_lt Qp.out.lt)
  have neXQu := Lib.hid (Nat.ne_of_lt X.out.lt)
  have geQu := Lib.hid HB.out.size
  have hb := al_below w6 (.cells #[.bool su, (.slice Au lu cu), (.slice Bu mu du)] 48)
  have F1' := Lib.hid (F1.out.up hb)
  clear F1
  have F1 := F1'
  clear F1'
  have F2' := Lib.hid (F2.out.up hb)
  clear F2
  have F2 := F2'
  clear F2'
  have Fs' := Lib.hid (Fs.out.up hb)
  clear Fs
  have Fs := Fs'
  clear Fs'
  have Fa' := Lib.hid (Fa.out.up hb)
  clear Fa
  have Fa := Fa'
  clear Fa'
  have Fp' := Lib.hid (Fp.out.up hb)
  clear Fp
  have Fp := Fp'
  clear Fp'
  have Fu' := Lib.hid (Fu.out.up hb)
  clear Fu
  have Fu := Fu'
  clear Fu'
  have Qs' := Lib.hid (Qs.out.below hb Qs.out.lt)
  clear Qs
  have Qs := Qs'
  clear Qs'
  have Qa' := Lib.hid (Qa.out.below hb Qa.out.lt)
  clear Qa
  have Qa := Qa'
  clear Qa'
  have Qp' := Lib.hid (Qp.out.below hb Qp.out.lt)
  clear Qp
  have Qp := Qp'
  clear Qp'
  have X' := Lib.hid (X.out.below hb)
  clear X
  have X := X'
  clear X'
  have HB' := Lib.hid (HB.out.trans (hb.mono HB.out.size))
  clear HB
  have HB := HB'
  clear HB'
  clear hb
  have Qu := Lib.hid (QB.new w6 su (.slice Au lu cu) (.slice Bu mu du))
  have zX0 := X.out.c0
  have zX1 := X.out.c1
  have zX2 := X.out.c2
  have zX3 := X.out.c3
  have zX4 := X.out.c4
  have zX5 := X.out.c5
  have zX6 := X.out.c6
  have zQs0 := Qs.out.c0
  have zQs1 := Qs.out.c1
  have zQs2 := Qs.out.c2
  have zQa0 := Qa.out.c0
  have zQa1 := Qa.out.c1
  have zQa2 := Qa.out.c2
  have zQp0 := Qp.out.c0
  have zQp1 := Qp.out.c1
  have zQp2 := Qp.out.c2
  have zQu0 := Qu.out.c0
  have zQu1 := Qu.out.c1
  have zQu2 := Qu.out.c2
  go_wp2_with fail
  generalize w6.alloc (.cells #[.bool su, (.slice Au lu cu), (.slice Bu mu du)] 48) = wQu at *
  generalize w6.heap.size = gQu at *
  refine (pfmul F2.out F2.out (by omega)).mono ?_
  rintro e w7 ⟨sq, Aq, lq, cq, Bq, mq, dq, Nq, Dq, he, hFq, hPq, hb⟩
  subst he
  clear zX0 zX1 zX2 zX3 zX4 zX5 zX6 zQs0 zQs1 zQs2 zQa0 zQa1 zQa2 zQp0 zQp1 zQp2 zQu0 zQu1 zQu2
  have F1' := Lib.hid (F1.out.up hb)
  clear F1
  have F1 := F1'
  clear F1'
  have F2' := Lib.hid (F2.out.up hb)
  clear F2
  have F2 := F2'
  clear F2'
  have Fs' := Lib.hid (Fs.out.up hb)
  clear Fs
  have Fs := Fs'
  clear Fs'
  have Fa' := Lib.hid (Fa.out.up hb)
  clear Fa
  have Fa := Fa'
  clear Fa'
  have Fp' := Lib.hid (Fp.out.up hb)
  clear Fp
  have Fp := Fp'
  clear Fp'
  have Fu' := Lib.hid (Fu.out.up hb)
  clear Fu
  have Fu := Fu'
  clear Fu'
  have Qs' := Lib.hid (Qs.out.below hb Qs.out.lt)
  clear Qs
  have Qs := Qs'
  clear Qs'
  have Qa' := Lib.hid (Qa.out.below hb Qa.out.lt)
  clear Qa
  have Qa := Qa'
  clear Qa'
  have Qp' := Lib.hid (Qp.out.below hb Qp.out.lt)
  clear Qp
  have Qp := Qp'
  clear Qp'
  have Qu' := Lib.hid (Qu.out.below hb Qu.out.lt)
  clear Qu
  have Qu := Qu'
  clear Qu'
  have X' := Lib.hid (X.out.below hb)
  clear X
  have X := X'
  clear X'
  have HB' := Lib.hid (HB.out.trans (hb.mono HB.out.size))
  clear HB
  have HB := HB'
  clear HB'
  clear hb
  have Fq := Lib.hid hFq
  have Pq := Lib.hid hPq
  clear hFq hPq
  have neQsQq := Lib.hid (Nat.ne_of_lt Qs.out.lt)
  have neQaQq := Lib.hid (Nat.ne_of_lt Qa.out.lt)
  have neQpQq := Lib.hid (Nat.ne_of_lt Qp.out.lt)
  have neQuQq := Lib.hid (Nat.ne_of_lt Qu.out.lt)
  have neXQq := Lib.hid (Nat.ne_of_lt X.out.lt)
  have geQq := Lib.hid HB.out.size
  have hb := al_below w7 (.cells #[.bool sq, (.slice Aq lq cq), (.slice Bq mq dq)] 48)
  have F1' := Lib.hid (F1.out.up hb)
  clear F1
  have F1 := F1'
  clear F1'
  have F2' := Lib.hid (F2.out.up hb)
  clear F2
  have F2 := F2'
  clear F2'
  have Fs' := Lib.hid (Fs.out.up hb)
  clear Fs
  have Fs := Fs'
  clear Fs'
  have Fa' := Lib.hid (Fa.out.up hb)
  clear Fa
  have Fa := Fa'
  clear Fa'
  have Fp' := Lib.hid (Fp.out.up hb)
  clear Fp
  have Fp := Fp'
  clear Fp'
  have Fu' := Lib.hid (Fu.out.up hb)
  clear Fu
  have Fu := Fu'
  clear Fu'
  have Fq' := Lib.hid (Fq.out.up hb)
  clear Fq
  have Fq := Fq'
  clear Fq'
  have Qs' := Lib.hid (Qs.out.below hb Qs.out.lt)
  clear Qs
  have Qs := Qs'
  clear Qs'
  have Qa' := Lib.hid (Qa.out.below hb Qa.out.lt)
  clear Qa
  have Qa := Qa'
  clear Qa'
  have Qp' := Lib.hid (Qp.out.below hb Qp.out.lt)
  clear Qp
  have Qp := Qp'
  clear Qp'
  have Qu' := Lib.hid (Qu.out.below hb Qu.out.lt)
  clear Qu
  have Qu := Qu'
  clear Qu'
  have X' := Lib.hid (X.out.below hb)
  clear X
  have X := X'
  clear X'
  have HB' := Lib.hid (HB.out.trans (hb.mono HB.out.size))
  clear HB
  have HB := HB'
  clear HB'
  clear hb
  have Qq := Lib.hid (QB.new w7 sq (.slice Aq lq cq) (.slice Bq mq dq))
  have zX0 := X.out.c0
  have zX1 := X.out.c1
  have zX2 := X.out.c2
  have zX3 := X.out.c3
  have zX4 := X.out.c4
  have zX5 := X.out.c5
  have zX6 := X.out.c6
  have zQs0 := Qs.out.c0
  have zQs1 := Qs.out.c1
  have zQs2 := Qs.out.c2
  have zQa0 := Qa.out.c0
  have zQa1 := Qa.out.c1
  have zQa2 := Qa.out.c2
  have zQp0 := Qp.out.c0
  have zQp1 := Qp.out.c1
  have zQp2 := Qp.out.c2
  have zQu0 := Qu.out.c0
  have zQu1 := Qu.out.c1
  have zQu2 := Qu.out.c2
  have zQq0 := Qq.out.c0
  have zQq1 := Qq.out.c1
  have zQq2 := Qq.out.c2
  go_wp2_with fail
  generalize w7.alloc (.cells #[.bool sq, (.slice Aq lq cq), (.slice Bq mq dq)] 48) = wQq at *
  generalize w7.heap.size = gQq at *
  refine (pfadd Fp.out Fq.out (by omega)).mono ?_
  rintro e w8 ⟨sr, Ar, lr, cr, Br, mr, dr, Nr, Dr, he, hFr, hPr, hb⟩
  subst he
  clear zX0 zX1 zX2 zX3 zX4 zX5 zX6 zQs0 zQs1 zQs2 zQa0 zQa1 zQa2 zQp0 zQp1 zQp2 zQu0 zQu1 zQu2 zQq0 zQq1 zQq2
  have F1' := Lib.hid (F1.out.up hb)
  clear F1
  have F1 := F1'
  clear F1'
  have F2' := Lib.hid (F2.out.up hb)
  clear F2
  have F2 := F2'
  clear F2'
  have Fs' := Lib.hid (Fs.out.up hb)
  clear Fs
  have Fs := Fs'
  clear Fs'
  have Fa' := Lib.hid (Fa.out.up hb)
  clear Fa
  have Fa := Fa'
  clear Fa'
  have Fp' := Lib.hid (Fp.out.up hb)
  clear Fp
  have Fp := Fp'
  clear Fp'
  have Fu' := Lib.hid (Fu.out.up hb)
  clear Fu
  have Fu := Fu'
  clear Fu'
  have Fq' := Lib.hid (Fq.out.up hb)
  clear Fq
  have Fq := Fq'
  clear Fq'
  have Qs' := Lib.hid (Qs.out.below hb Qs.out.lt)
  clear Qs
  have Qs := Qs'
  clear Qs'
  have Qa' := Lib.hid (Qa.out.below hb Qa.out.lt)
  clear Qa
  have Qa := Qa'
  clear Qa'
  have Qp' := Lib.hid (Qp.out.below hb Qp.out.lt)
  clear Qp
  have Qp := Qp'
  clear Qp'
  have Qu' := Lib.hid (Qu.out.below hb Qu.out.lt)
  clear Qu
  have Qu := Qu'
  clear Qu'
  have Qq' := Lib.hid (Qq.out.below hb Qq.out.lt)
  clear Qq
  have Qq := Qq'
  clear Qq'
  have X' := Lib.hid (X.out.below hb)
  clear X
  have X := X'
  clear X'
  have HB' := Lib.hid (HB.out.trans (hb.mono HB.out.size))
  clear HB
  have HB := HB'
  clear HB'
  clear hb
  have Fr := Lib.hid hFr
  have Pr := Lib.hid hPr
  clear hFr hPr
  have neQsQr := Lib.hid (Nat.ne_of_lt Qs.out.lt)
  have neQaQr := Lib.hid (Nat.ne_of_lt Qa.out.lt)
  have neQpQr := Lib.hid (Nat.ne_of_lt Qp.out.lt)
  have neQuQr := Lib.hid (Nat.ne_of_lt Qu.out.lt)
  have neQqQr := Lib.hid (Nat.ne_of_lt Qq.out.lt)
  have neXQr := Lib.hid (Nat.ne_of_lt X.out.lt)
  have geQr := Lib.hid HB.out.size
  have hb := al_below w8 (.cells #[.bool sr, (.slice Ar lr cr), (.slice Br mr dr)] 48)
  have F1' := Lib.hid (F1.out.up hb)
  clear F1
  have F1 := F1'
  clear F1'
  have F2' := Lib.hid (F2.out.up hb)
  clear F2
  have F2 := F2'
  clear F2'
  have Fs' := Lib.hid (Fs.out.up hb)
  clear Fs
  have Fs := Fs'
  clear Fs'
  have Fa' := Lib.hid (Fa.out.up hb)
  clear Fa
  have Fa := Fa'
  clear Fa'
  have Fp' := Lib.hid (Fp.out.up hb)
  clear Fp
  have Fp := Fp'
  clear Fp'
  have Fu' := Lib.hid (Fu.out.up hb)
  clear Fu
  have Fu := Fu'
  clear Fu'
  have Fq' := Lib.hid (Fq.out.up hb)
  clear Fq
  have Fq := Fq'
  clear Fq'
  have Fr' := Lib.hid (Fr.out.up hb)
  clear Fr
  have Fr := Fr'
  clear Fr'
  have Qs' := Lib.hid (Qs.out.below hb Qs.out.lt)
  clear Qs
  have Qs := Qs'
  clear Qs'
  have Qa' := Lib.hid (Qa.out.below hb Qa.out.lt)
  clear Qa
  have Qa := Qa'
  clear Qa'
  have Qp' := Lib.hid (Qp.out.below hb Qp.out.lt)
  clear Qp
  have Qp := Qp'
  clear Qp'
  have Qu' := Lib.hid (Qu.out.below hb Qu.out.lt)
  clear Qu
  have Qu := Qu'
  clear Qu'
  have Qq' := Lib.hid (Qq.out.below hb Qq.out.lt)
  clear Qq
  have Qq := Qq'
  clear Qq'
  have X' := Lib.hid (X.out.below hb)
  clear X
  have X := X'
  clear X'
  have HB' := Lib.hid (HB.out.trans (hb.mono HB.out.size))
  clear HB
  have HB := HB'
  clear HB'
  clear hb
  have Qr := Lib.hid (QB.new w8 sr (.slice Ar lr cr) (.slice Br mr dr))
  have zX0 := X.out.c0
  have zX1 := X.out.c1
  have zX2 := X.out.c2
  have zX3 := X.out.c3
  have zX4 := X.out.c4
  have zX5 := X.out.c5
  have zX6 := X.out.c6
  have zQs0 := Qs.out.c0
  have zQs1 := Qs.out.c1
  have zQs2 := Qs.out.c2
  have zQa0 := Qa.out.c0
  have zQa1 := Qa.out.c1
  have zQa2 := Qa.out.c2
  have zQp0 := Qp.out.c0
  have zQp1 := Qp.out.c1
  have zQp2 := Qp.out.c2
  have zQu0 := Qu.out.c0
  have zQu1 := Qu.out.c1
  have zQu2 := Qu.out.c2
  have zQq0 := Qq.out.c0
  have zQq1 := Qq.out.c1
  have zQq2 := Qq.out.c2
  have zQr0 := Qr.out.c0
  have zQr1 := Qr.out.c1
  have zQr2 := Qr.out.c2
  go_wp2_with fail
  generalize w8.alloc (.cells #[.bool sr, (.slice Ar lr cr), (.slice Br mr dr)] 48) = wQr at *
  generalize w8.heap.size = gQr at *
  have z1 : (D1 : Int) ≠ 0 := by have := E1.out; omega
  have z2 : (D2 : Int) ≠ 0 := by have := E2.out; omega
  have zs : (Ds : Int) ≠ 0 := by have := Fs.out.ne; omega
  have zp : (Dp : Int) ≠ 0 := by have := Fp.out.ne; omega
  have zq : (Dq : Int) ≠ 0 := by have := Fq.out.ne; omega
  have ps := Ps.out
  rw [natmul] at ps
  have pa := Pa.out
  rw [natmul] at pa
  have pp := Pp.out
  rw [natmul] at pp
  have pu := Pu.out
  rw [natmul] at pu
  have pq := Pq.out
  rw [natmul] at pq
  have pr := Pr.out
  rw [natmul] at pr
  have cA : Na * (D1 : Int) = N1 * (Da : Int) := back_eq z2 zs ps pa
  have uX := sum_cross zs ps pu
  have rX := right_cross zp zq pp pq pr
  have cR : Nu * (Dr : Int) = Nr * (Du : Int) := both_cross (mul_ne (mul_ne z1 z2) z2) uX rX
  have CA := Lib.hid cA
  have CR := Lib.hid cR
  clear cA cR uX rX z1 z2 zs zp zq ps pa pp pu pq pr
  refine (fq_same Fa.out F1.out (by omega) (by omega) CA.out).mono ?_
  rintro e w9 ⟨he, hb⟩
  subst he
  clear zX0 zX1 zX2 zX3 zX4 zX5 zX6 zQs0 zQs1 zQs2 zQa0 zQa1 zQa2 zQp0 zQp1 zQp2 zQu0 zQu1 zQu2 zQq0 zQq1 zQq2 zQr0 zQr1 zQr2
  have F1' := Lib.hid (F1.out.up hb)
  clear F1
  have F1 := F1'
  clear F1'
  have F2' := Lib.hid (F2.out.up hb)
  clear F2
  have F2 := F2'
  clear F2'
  have Fs' := Lib.hid (Fs.out.up hb)
  clear Fs
  have Fs := Fs'
  clear Fs'
  have Fa' := Lib.hid (Fa.out.up hb)
  clear Fa
  have Fa := Fa'
  clear Fa'
  have Fp' := Lib.hid (Fp.out.up hb)
  clear Fp
  have Fp := Fp'
  clear Fp'
  have Fu' := Lib.hid (Fu.out.up hb)
  clear Fu
  have Fu := Fu'
  clear Fu'
  have Fq' := Lib.hid (Fq.out.up hb)
  clear Fq
  have Fq := Fq'
  clear Fq'
  have Fr' := Lib.hid (Fr.out.up hb)
  clear Fr
  have Fr := Fr'
  clear Fr'
  have Qs' := Lib.hid (Qs.out.below hb Qs.out.lt)
  clear Qs
  have Qs := Qs'
  clear Qs'
  have Qa' := Lib.hid (Qa.out.below hb Qa.out.lt)
  clear Qa
  have Qa := Qa'
  clear Qa'
  have Qp' := Lib.hid (Qp.out.below hb Qp.out.lt)
  clear Qp
  have Qp := Qp'
  clear Qp'
  have Qu' := Lib.hid (Qu.out.below hb Qu.out.lt)
  clear Qu
  have Qu := Qu'
  clear Qu'
  have Qq' := Lib.hid (Qq.out.below hb Qq.out.lt)
  clear Qq
  have Qq := Qq'
  clear Qq'
  have Qr' := Lib.hid (Qr.out.below hb Qr.out.lt)
  clear Qr
  have Qr := Qr'
  clear Qr'
  have X' := Lib.hid (X.out.below hb)
  clear X
  have X := X'
  clear X'
  have HB' := Lib.hid (HB.out.trans (hb.mono HB.out.size))
  clear HB
  have HB := HB'
  clear HB'
  clear hb
  have zX0 := X.out.c0
  have zX1 := X.out.c1
  have zX2 := X.out.c2
  have zX3 := X.out.c3
  have zX4 := X.out.c4
  have zX5 := X.out.c5
  have zX6 := X.out.c6
  have zQs0 := Qs.out.c0
  have zQs1 := Qs.out.c1
  have zQs2 := Qs.out.c2
  have zQa0 := Qa.out.c0
  have zQa1 := Qa.out.c1
  have zQa2 := Qa.out.c2
  have zQp0 := Qp.out.c0
  have zQp1 := Qp.out.c1
  have zQp2 := Qp.out.c2
  have zQu0 := Qu.out.c0
  have zQu1 := Qu.out.c1
  have zQu2 := Qu.out.c2
  have zQq0 := Qq.out.c0
  have zQq1 := Qq.out.c1
  have zQq2 := Qq.out.c2
  have zQr0 := Qr.out.c0
  have zQr1 := Qr.out.c1
  have zQr2 := Qr.out.c2
  go_wp2_with fail
  refine (fq_same Fu.out Fr.out (by omega) (by omega) CR.out).mono ?_
  rintro e w10 ⟨he, hb⟩
  subst he
  clear zX0 zX1 zX2 zX3 zX4 zX5 zX6 zQs0 zQs1 zQs2 zQa0 zQa1 zQa2 zQp0 zQp1 zQp2 zQu0 zQu1 zQu2 zQq0 zQq1 zQq2 zQr0 zQr1 zQr2
  have F1' := Lib.hid (F1.out.up hb)
  clear F1
  have F1 := F1'
  clear F1'
  have F2' := Lib.hid (F2.out.up hb)
  clear F2
  have F2 := F2'
  clear F2'
  have Fs' := Lib.hid (Fs.out.up hb)
  clear Fs
  have Fs := Fs'
  clear Fs'
  have Fa' := Lib.hid (Fa.out.up hb)
  clear Fa
  have Fa := Fa'
  clear Fa'
  have Fp' := Lib.hid (Fp.out.up hb)
  clear Fp
  have Fp := Fp'
  clear Fp'
  have Fu' := Lib.hid (Fu.out.up hb)
  clear Fu
  have Fu := Fu'
  clear Fu'
  have Fq' := Lib.hid (Fq.out.up hb)
  clear Fq
  have Fq := Fq'
  clear Fq'
  have Fr' := Lib.hid (Fr.out.up hb)
  clear Fr
  have Fr := Fr'
  clear Fr'
  have Qs' := Lib.hid (Qs.out.below hb Qs.out.lt)
  clear Qs
  have Qs := Qs'
  clear Qs'
  have Qa' := Lib.hid (Qa.out.below hb Qa.out.lt)
  clear Qa
  have Qa := Qa'
  clear Qa'
  have Qp' := Lib.hid (Qp.out.below hb Qp.out.lt)
  clear Qp
  have Qp := Qp'
  clear Qp'
  have Qu' := Lib.hid (Qu.out.below hb Qu.out.lt)
  clear Qu
  have Qu := Qu'
  clear Qu'
  have Qq' := Lib.hid (Qq.out.below hb Qq.out.lt)
  clear Qq
  have Qq := Qq'
  clear Qq'
  have Qr' := Lib.hid (Qr.out.below hb Qr.out.lt)
  clear Qr
  have Qr := Qr'
  clear Qr'
  have X' := Lib.hid (X.out.below hb)
  clear X
  have X := X'
  clear X'
  have HB' := Lib.hid (HB.out.trans (hb.mono HB.out.size))
  clear HB
  have HB := HB'
  clear HB'
  clear hb
  by_cases h0 : N2 = 0
  · have hn0 : n2 = 0 := HZ2.out.2 h0
    have t9 : ¬ (0 : Int) < (n2 : Int) := by omega
    clear hn0 h0 HZ2 Ps Pa Pp Pu Pq Pr CA CR
    have zX0 := X.out.c0
    have zX1 := X.out.c1
    have zX2 := X.out.c2
    have zX3 := X.out.c3
    have zX4 := X.out.c4
    have zX5 := X.out.c5
    have zX6 := X.out.c6
    have zQs0 := Qs.out.c0
    have zQs1 := Qs.out.c1
    have zQs2 := Qs.out.c2
    have zQa0 := Qa.out.c0
    have zQa1 := Qa.out.c1
    have zQa2 := Qa.out.c2
    have zQp0 := Qp.out.c0
    have zQp1 := Qp.out.c1
    have zQp2 := Qp.out.c2
    have zQu0 := Qu.out.c0
    have zQu1 := Qu.out.c1
    have zQu2 := Qu.out.c2
    have zQq0 := Qq.out.c0
    have zQq1 := Qq.out.c1
    have zQq2 := Qq.out.c2
    have zQr0 := Qr.out.c0
    have zQr1 := Qr.out.c1
    have zQr2 := Qr.out.c2
    go_wp2_with fail
    refine (pfsub F1.out F2.out (by omega)).mono ?_
    rintro e w11 ⟨sd, Ad, ld, cd, Bd, md, dd, Nd, Dd, he, hFd, hPd, hb⟩
    subst he
    clear zX0 zX1 zX2 zX3 zX4 zX5 zX6 zQs0 zQs1 zQs2 zQa0 zQa1 zQa2 zQp0 zQp1 zQp2 zQu0 zQu1 zQu2 zQq0 zQq1 zQq2 zQr0 zQr1 zQr2
    have F1' := Lib.hid (F1.out.up hb)
    clear F1
    have F1 := F1'
    clear F1'
    have F2' := Lib.hid (F2.out.up hb)
    clear F2
    have F2 := F2'
    clear F2'
    have Fs' := Lib.hid (Fs.out.up hb)
    clear Fs
    have Fs := Fs'
    clear Fs'
    have Fa' := Lib.hid (Fa.out.up hb)
    clear Fa
    have Fa := Fa'
    clear Fa'
    have Fp' := Lib.hid (Fp.out.up hb)
    clear Fp
    have Fp := Fp'
    clear Fp'
    have Fu' := Lib.hid (Fu.out.up hb)
    clear Fu
    have Fu := Fu'
    clear Fu'
    have Fq' := Lib.hid (Fq.out.up hb)
    clear Fq
    have Fq := Fq'
    clear Fq'
    have Fr' := Lib.hid (Fr.out.up hb)
    clear Fr
    have Fr := Fr'
    clear Fr'
    have Qs' := Lib.hid (Qs.out.below hb Qs.out.lt)
    clear Qs
    have Qs := Qs'
    clear Qs'
    have Qa' := Lib.hid (Qa.out.below hb Qa.out.lt)
    clear Qa
    have Qa := Qa'
    clear Qa'
    have Qp' := Lib.hid (Qp.out.below hb Qp.out.lt)
    clear Qp
    have Qp := Qp'
    clear Qp'
    have Qu' := Lib.hid (Qu.out.below hb Qu.out.lt)
    clear Qu
    have Qu := Qu'
    clear Qu'
    have Qq' := Lib.hid (Qq.out.below hb Qq.out.lt)
    clear Qq
    have Qq := Qq'
    clear Qq'
    have Qr' := Lib.hid (Qr.out.below hb Qr.out.lt)
    clear Qr
    have Qr := Qr'
    clear Qr'
    have X' := Lib.hid (X.out.below hb)
    clear X
    have X := X'
    clear X'
    have HB' := Lib.hid (HB.out.trans (hb.mono HB.out.size))
    clear HB
    have HB := HB'
    clear HB'
    clear hb
    have Fd := Lib.hid hFd
    have Pd := Lib.hid hPd
    clear hFd hPd
    have neQsQd := Lib.hid (Nat.ne_of_lt Qs.out.lt)
    have neQaQd := Lib.hid (Nat.ne_of_lt Qa.out.lt)
    have neQpQd := Lib.hid (Nat.ne_of_lt Qp.out.lt)
    have neQuQd := Lib.hid (Nat.ne_of_lt Qu.out.lt)
    have neQqQd := Lib.hid (Nat.ne_of_lt Qq.out.lt)
    have neQrQd := Lib.hid (Nat.ne_of_lt Qr.out.lt)
    have neXQd := Lib.hid (Nat.ne_of_lt X.out.lt)
    have geQd := Lib.hid HB.out.size
    have hb := al_below w11 (.cells #[.bool sd, (.slice Ad ld cd), (.slice Bd md dd)] 48)
    have F1' := Lib.hid (F1.out.up hb)
    clear F1
    have F1 := F1'
    clear F1'
    have F2' := Lib.hid (F2.out.up hb)
    clear F2
    have F2 := F2'
    clear F2'
    have Fs' := Lib.hid (Fs.out.up hb)
    clear Fs
    have Fs := Fs'
    clear Fs'
    have Fa' := Lib.hid (Fa.out.up hb)
    clear Fa
    have Fa := Fa'
    clear Fa'
    have Fp' := Lib.hid (Fp.out.up hb)
    clear Fp
    have Fp := Fp'
    clear Fp'
    have Fu' := Lib.hid (Fu.out.up hb)
    clear Fu
    have Fu := Fu'
    clear Fu'
    have Fq' := Lib.hid (Fq.out.up hb)
    clear Fq
    have Fq := Fq'
    clear Fq'
    have Fr' := Lib.hid (Fr.out.up hb)
    clear Fr
    have Fr := Fr'
    clear Fr'
    have Fd' := Lib.hid (Fd.out.up hb)
    clear Fd
    have Fd := Fd'
    clear Fd'
    have Qs' := Lib.hid (Qs.out.below hb Qs.out.lt)
    clear Qs
    have Qs := Qs'
    clear Qs'
    have Qa' := Lib.hid (Qa.out.below hb Qa.out.lt)
    clear Qa
    have Qa := Qa'
    clear Qa'
    have Qp' := Lib.hid (Qp.out.below hb Qp.out.lt)
    clear Qp
    have Qp := Qp'
    clear Qp'
    have Qu' := Lib.hid (Qu.out.below hb Qu.out.lt)
    clear Qu
    have Qu := Qu'
    clear Qu'
    have Qq' := Lib.hid (Qq.out.below hb Qq.out.lt)
    clear Qq
    have Qq := Qq'
    clear Qq'
    have Qr' := Lib.hid (Qr.out.below hb Qr.out.lt)
    clear Qr
    have Qr := Qr'
    clear Qr'
    have X' := Lib.hid (X.out.below hb)
    clear X
    have X := X'
    clear X'
    have HB' := Lib.hid (HB.out.trans (hb.mono HB.out.size))
    clear HB
    have HB := HB'
    clear HB'
    clear hb
    have Qd := Lib.hid (QB.new w11 sd (.slice Ad ld cd) (.slice Bd md dd))
    have zX0 := X.out.c0
    have zX1 := X.out.c1
    have zX2 := X.out.c2
    have zX3 := X.out.c3
    have zX4 := X.out.c4
    have zX5 := X.out.c5
    have zX6 := X.out.c6
    have zQs0 := Qs.out.c0
    have zQs1 := Qs.out.c1
    have zQs2 := Qs.out.c2
    have zQa0 := Qa.out.c0
    have zQa1 := Qa.out.c1
    have zQa2 := Qa.out.c2
    have zQp0 := Qp.out.c0
    have zQp1 := Qp.out.c1
    have zQp2 := Qp.out.c2
    have zQu0 := Qu.out.c0
    have zQu1 := Qu.out.c1
    have zQu2 := Qu.out.c2
    have zQq0 := Qq.out.c0
    have zQq1 := Qq.out.c1
    have zQq2 := Qq.out.c2
    have zQr0 := Qr.out.c0
    have zQr1 := Qr.out.c1
    have zQr2 := Qr.out.c2
    have zQd0 := Qd.out.c0
    have zQd1 := Qd.out.c1
    have zQd2 := Qd.out.c2
    go_wp2_with fail
    generalize w11.alloc (.cells #[.bool sd, (.slice Ad ld cd), (.slice Bd md dd)] 48) = wQd at *
    generalize w11.heap.size = gQd at *
    have hds := diff_sign (K := (D1 : Int) * D2) (A := N1 * D2) (B := N2 * D1) (Int.mul_pos (by have := E1.out; omega) (by have := E2.out; omega)) (show (0 : Int) < (Dd : Int) by have := Fd.out.ne; omega) (show Nd * ((D1 : Int) * D2) = (N1 * D2 - N2 * D1) * Dd by have := Pd.out; rw [natmul] at this; exact this)
    have hsd := Fd.out.sg
    have hld : (ld = 0) ↔ Nd = 0 := by
      have e : (dg Nd.natAbs).length = ld := by
        obtain ⟨_, _, e, _⟩ := Fd.out.num.form
        injection e with _ e _
        exact e.symm
      rw [← e]
      constructor
      · intro h; have := dg_zero_iff.1 h; omega
      · intro h; rw [h]; simp [dg_zero]
    obtain ⟨cc, hcc, hc⟩ : ∃ cc : Int, cmp3 (N1 * (D2 : Int)) (N2 * (D1 : Int)) = cc ∧ ((cc = -1 ∧ sd = true ∧ ld ≠ 0) ∨ (cc = 0 ∧ sd = false ∧ ld = 0) ∨ (cc = 1 ∧ sd = false ∧ ld ≠ 0)) := by
      refine ⟨_, rfl, ?_⟩
      unfold cmp3
      by_cases h1 : N1 * (D2 : Int) < N2 * (D1 : Int)
      · rw [if_pos h1]
        have a := hds.1.2 h1
        exact .inl ⟨rfl, by rw [hsd]; exact decide_eq_true a, fun h => by have := hld.1 h; omega⟩
      · rw [if_neg h1]
        have a : ¬ Nd < 0 := fun h => h1 (hds.1.1 h)
        by_cases h2 : N1 * (D2 : Int) = N2 * (D1 : Int)
        · rw [if_pos h2]
          exact .inr (.inl ⟨rfl, by rw [hsd]; exact decide_eq_false a, hld.2 (hds.2.2 h2)⟩)
        · rw [if_neg h2]
          exact .inr (.inr ⟨rfl, by rw [hsd]; exact decide_eq_false a, fun h => h2 (hds.2.1 (hld.1 h))⟩)
    have HCC := Lib.hid hcc
    clear hds hsd hld hcc Pd
    refine ((HCC.out ▸ pfcmp F1.out F2.out (by omega) : Calls _ _ _ _ (fun e w' => e = .returned (.tuple #[.int .i64 cc, .int .i64 0]) ∧ Below _ _ w'))).mono ?_
    rintro e w12 ⟨he, hb⟩
    subst he
    clear zX0 zX1 zX2 zX3 zX4 zX5 zX6 zQs0 zQs1 zQs2 zQa0 zQa1 zQa2 zQp0 zQp1 zQp2 zQu0 zQu1 zQu2 zQq0 zQq1 zQq2 zQr0 zQr1 zQr2 zQd0 zQd1 zQd2
    have F1' := Lib.hid (F1.out.up hb)
    clear F1
    have F1 := F1'
    clear F1'
    have F2' := Lib.hid (F2.out.up hb)
    clear F2
    have F2 := F2'
    clear F2'
    have Fs' := Lib.hid (Fs.out.up hb)
    clear Fs
    have Fs := Fs'
    clear Fs'
    have Fa' := Lib.hid (Fa.out.up hb)
    clear Fa
    have Fa := Fa'
    clear Fa'
    have Fp' := Lib.hid (Fp.out.up hb)
    clear Fp
    have Fp := Fp'
    clear Fp'
    have Fu' := Lib.hid (Fu.out.up hb)
    clear Fu
    have Fu := Fu'
    clear Fu'
    have Fq' := Lib.hid (Fq.out.up hb)
    clear Fq
    have Fq := Fq'
    clear Fq'
    have Fr' := Lib.hid (Fr.out.up hb)
    clear Fr
    have Fr := Fr'
    clear Fr'
    have Fd' := Lib.hid (Fd.out.up hb)
    clear Fd
    have Fd := Fd'
    clear Fd'
    have Qs' := Lib.hid (Qs.out.below hb Qs.out.lt)
    clear Qs
    have Qs := Qs'
    clear Qs'
    have Qa' := Lib.hid (Qa.out.below hb Qa.out.lt)
    clear Qa
    have Qa := Qa'
    clear Qa'
    have Qp' := Lib.hid (Qp.out.below hb Qp.out.lt)
    clear Qp
    have Qp := Qp'
    clear Qp'
    have Qu' := Lib.hid (Qu.out.below hb Qu.out.lt)
    clear Qu
    have Qu := Qu'
    clear Qu'
    have Qq' := Lib.hid (Qq.out.below hb Qq.out.lt)
    clear Qq
    have Qq := Qq'
    clear Qq'
    have Qr' := Lib.hid (Qr.out.below hb Qr.out.lt)
    clear Qr
    have Qr := Qr'
    clear Qr'
    have Qd' := Lib.hid (Qd.out.below hb Qd.out.lt)
    clear Qd
    have Qd := Qd'
    clear Qd'
    have X' := Lib.hid (X.out.below hb)
    clear X
    have X := X'
    clear X'
    have HB' := Lib.hid (HB.out.trans (hb.mono HB.out.size))
    clear HB
    have HB := HB'
    clear HB'
    clear hb
    clear HCC Fd
    rcases hc with ⟨rfl, rfl, hl⟩ | ⟨rfl, rfl, rfl⟩ | ⟨rfl, rfl, hl⟩
    · have hlI : ((ld : Int) == 0) = false := beq_eq_false_iff_ne.2 (by omega)
      have hlJ : (ld : Int) ≠ 0 := by omega
      clear hl
      have zX0 := X.out.c0
      have zX1 := X.out.c1
      have zX2 := X.out.c2
      have zX3 := X.out.c3
      have zX4 := X.out.c4
      have zX5 := X.out.c5
      have zX6 := X.out.c6
      have zQs0 := Qs.out.c0
      have zQs1 := Qs.out.c1
      have zQs2 := Qs.out.c2
      have zQa0 := Qa.out.c0
      have zQa1 := Qa.out.c1
      have zQa2 := Qa.out.c2
      have zQp0 := Qp.out.c0
      have zQp1 := Qp.out.c1
      have zQp2 := Qp.out.c2
      have zQu0 := Qu.out.c0
      have zQu1 := Qu.out.c1
      have zQu2 := Qu.out.c2
      have zQq0 := Qq.out.c0
      have zQq1 := Qq.out.c1
      have zQq2 := Qq.out.c2
      have zQr0 := Qr.out.c0
      have zQr1 := Qr.out.c1
      have zQr2 := Qr.out.c2
      have zQd0 := Qd.out.c0
      have zQd1 := Qd.out.c1
      have zQd2 := Qd.out.c2
      go_wp2_with fail
      refine (pffloor F1.out (by omega)).mono ?_
      rintro e w14 ⟨vf, he, hNf, hlf, hsf, hb⟩
      subst he
      clear zX0 zX1 zX2 zX3 zX4 zX5 zX6 zQs0 zQs1 zQs2 zQa0 zQa1 zQa2 zQp0 zQp1 zQp2 zQu0 zQu1 zQu2 zQq0 zQq1 zQq2 zQr0 zQr1 zQr2 zQd0 zQd1 zQd2
      have F1' := Lib.hid (F1.out.up hb)
      clear F1
      have F1 := F1'
      clear F1'
      have F2' := Lib.hid (F2.out.up hb)
      clear F2
      have F2 := F2'
      clear F2'
      have Fs' := Lib.hid (Fs.out.up hb)
      clear Fs
      have Fs := Fs'
      clear Fs'
      have Fa' := Lib.hid (Fa.out.up hb)
      clear Fa
      have Fa := Fa'
      clear Fa'
      have Fp' := Lib.hid (Fp.out.up hb)
      clear Fp
      have Fp := Fp'
      clear Fp'
      have Fu' := Lib.hid (Fu.out.up hb)
      clear Fu
      have Fu := Fu'
      clear Fu'
      have Fq' := Lib.hid (Fq.out.up hb)
      clear Fq
      have Fq := Fq'
      clear Fq'
      have Fr' := Lib.hid (Fr.out.up hb)
      clear Fr
      have Fr := Fr'
      clear Fr'
      have Qs' := Lib.hid (Qs.out.below hb Qs.out.lt)
      clear Qs
      have Qs := Qs'
      clear Qs'
      have Qa' := Lib.hid (Qa.out.below hb Qa.out.lt)
      clear Qa
      have Qa := Qa'
      clear Qa'
      have Qp' := Lib.hid (Qp.out.below hb Qp.out.lt)
      clear Qp
      have Qp := Qp'
      clear Qp'
      have Qu' := Lib.hid (Qu.out.below hb Qu.out.lt)
      clear Qu
      have Qu := Qu'
      clear Qu'
      have Qq' := Lib.hid (Qq.out.below hb Qq.out.lt)
      clear Qq
      have Qq := Qq'
      clear Qq'
      have Qr' := Lib.hid (Qr.out.below hb Qr.out.lt)
      clear Qr
      have Qr := Qr'
      clear Qr'
      have Qd' := Lib.hid (Qd.out.below hb Qd.out.lt)
      clear Qd
      have Qd := Qd'
      clear Qd'
      have X' := Lib.hid (X.out.below hb)
      clear X
      have X := X'
      clear X'
      have HB' := Lib.hid (HB.out.trans (hb.mono HB.out.size))
      clear HB
      have HB := HB'
      clear HB'
      clear hb
      obtain ⟨Af, cf, rfl, -⟩ := hNf.form
      generalize hfl : (dg (N1 / (D1 : Int)).natAbs).length = lf at *
      clear hfl hlf hsf
      have NF := Lib.hid hNf
      clear hNf
      have zX0 := X.out.c0
      have zX1 := X.out.c1
      have zX2 := X.out.c2
      have zX3 := X.out.c3
      have zX4 := X.out.c4
      have zX5 := X.out.c5
      have zX6 := X.out.c6
      have zQs0 := Qs.out.c0
      have zQs1 := Qs.out.c1
      have zQs2 := Qs.out.c2
      have zQa0 := Qa.out.c0
      have zQa1 := Qa.out.c1
      have zQa2 := Qa.out.c2
      have zQp0 := Qp.out.c0
      have zQp1 := Qp.out.c1
      have zQp2 := Qp.out.c2
      have zQu0 := Qu.out.c0
      have zQu1 := Qu.out.c1
      have zQu2 := Qu.out.c2
      have zQq0 := Qq.out.c0
      have zQq1 := Qq.out.c1
      have zQq2 := Qq.out.c2
      have zQr0 := Qr.out.c0
      have zQr1 := Qr.out.c1
      have zQr2 := Qr.out.c2
      have zQd0 := Qd.out.c0
      have zQd1 := Qd.out.c1
      have zQd2 := Qd.out.c2
      go_wp2_with fail
      have ho := one_new w14
      have hb := al_below w14 (.cells #[.int .u32 1] 64)
      have NF' := Lib.hid (NF.out.up hb)
      clear NF
      have NF := NF'
      clear NF'
      clear zX0 zX1 zX2 zX3 zX4 zX5 zX6 zQs0 zQs1 zQs2 zQa0 zQa1 zQa2 zQp0 zQp1 zQp2 zQu0 zQu1 zQu2 zQq0 zQq1 zQq2 zQr0 zQr1 zQr2 zQd0 zQd1 zQd2
      have F1' := Lib.hid (F1.out.up hb)
      clear F1
      have F1 := F1'
      clear F1'
      have F2' := Lib.hid (F2.out.up hb)
      clear F2
      have F2 := F2'
      clear F2'
      have Fs' := Lib.hid (Fs.out.up hb)
      clear Fs
      have Fs := Fs'
      clear Fs'
      have Fa' := Lib.hid (Fa.out.up hb)
      clear Fa
      have Fa := Fa'
      clear Fa'
      have Fp' := Lib.hid (Fp.out.up hb)
      clear Fp
      have Fp := Fp'
      clear Fp'
      have Fu' := Lib.hid (Fu.out.up hb)
      clear Fu
      have Fu := Fu'
      clear Fu'
      have Fq' := Lib.hid (Fq.out.up hb)
      clear Fq
      have Fq := Fq'
      clear Fq'
      have Fr' := Lib.hid (Fr.out.up hb)
      clear Fr
      have Fr := Fr'
      clear Fr'
      have Qs' := Lib.hid (Qs.out.below hb Qs.out.lt)
      clear Qs
      have Qs := Qs'
      clear Qs'
      have Qa' := Lib.hid (Qa.out.below hb Qa.out.lt)
      clear Qa
      have Qa := Qa'
      clear Qa'
      have Qp' := Lib.hid (Qp.out.below hb Qp.out.lt)
      clear Qp
      have Qp := Qp'
      clear Qp'
      have Qu' := Lib.hid (Qu.out.below hb Qu.out.lt)
      clear Qu
      have Qu := Qu'
      clear Qu'
      have Qq' := Lib.hid (Qq.out.below hb Qq.out.lt)
      clear Qq
      have Qq := Qq'
      clear Qq'
      have Qr' := Lib.hid (Qr.out.below hb Qr.out.lt)
      clear Qr
      have Qr := Qr'
      clear Qr'
      have Qd' := Lib.hid (Qd.out.below hb Qd.out.lt)
      clear Qd
      have Qd := Qd'
      clear Qd'
      have X' := Lib.hid (X.out.below hb)
      clear X
      have X := X'
      clear X'
      have HB' := Lib.hid (HB.out.trans (hb.mono HB.out.size))
      clear HB
      have HB := HB'
      clear HB'
      clear hb
      have FF := Lib.hid (floor_fq F1.out.sg E1.out NF.out (show Num (w14.alloc (.cells #[.int .u32 1] 64)) (w14.alloc (.cells #[.int .u32 1] 64)).heap.size _ 1 by rw [World.size_alloc]; exact ho) F1.out.ln)
      clear ho NF
      refine (pfsub F1.out FF.out (by omega)).mono ?_
      rintro e w15 ⟨sx, Ax, lx, cx, Bx, mx, dx, Nx, Dx, he, hFx, hPx, hb⟩
      subst he
      have F1' := Lib.hid (F1.out.up hb)
      clear F1
      have F1 := F1'
      clear F1'
      have F2' := Lib.hid (F2.out.up hb)
      clear F2
      have F2 := F2'
      clear F2'
      have Fs' := Lib.hid (Fs.out.up hb)
      clear Fs
      have Fs := Fs'
      clear Fs'
      have Fa' := Lib.hid (Fa.out.up hb)
      clear Fa
      have Fa := Fa'
      clear Fa'
      have Fp' := Lib.hid (Fp.out.up hb)
      clear Fp
      have Fp := Fp'
      clear Fp'
      have Fu' := Lib.hid (Fu.out.up hb)
      clear Fu
      have Fu := Fu'
      clear Fu'
      have Fq' := Lib.hid (Fq.out.up hb)
      clear Fq
      have Fq := Fq'
      clear Fq'
      have Fr' := Lib.hid (Fr.out.up hb)
      clear Fr
      have Fr := Fr'
      clear Fr'
      have Qs' := Lib.hid (Qs.out.below hb Qs.out.lt)
      clear Qs
      have Qs := Qs'
      clear Qs'
      have Qa' := Lib.hid (Qa.out.below hb Qa.out.lt)
      clear Qa
      have Qa := Qa'
      clear Qa'
      have Qp' := Lib.hid (Qp.out.below hb Qp.out.lt)
      clear Qp
      have Qp := Qp'
      clear Qp'
      have Qu' := Lib.hid (Qu.out.below hb Qu.out.lt)
      clear Qu
      have Qu := Qu'
      clear Qu'
      have Qq' := Lib.hid (Qq.out.below hb Qq.out.lt)
      clear Qq
      have Qq := Qq'
      clear Qq'
      have Qr' := Lib.hid (Qr.out.below hb Qr.out.lt)
      clear Qr
      have Qr := Qr'
      clear Qr'
      have Qd' := Lib.hid (Qd.out.below hb Qd.out.lt)
      clear Qd
      have Qd := Qd'
      clear Qd'
      have X' := Lib.hid (X.out.below hb)
      clear X
      have X := X'
      clear X'
      have HB' := Lib.hid (HB.out.trans (hb.mono HB.out.size))
      clear HB
      have HB := HB'
      clear HB'
      clear hb
      clear FF
      have hsm := rest_small E1.out hFx.ne hPx
      have hsx : sx = false := by rw [hFx.sg]; exact decide_eq_false (by have := hsm.1; omega)
      subst hsx
      have Fx := Lib.hid hFx
      have CX := Lib.hid (show cmp3 (Nx * ((1 : Nat) : Int)) (((1 : Nat) : Int) * (Dx : Int)) = -1 by unfold cmp3; rw [if_pos hsm.2])
      clear hFx hPx hsm
      have neQsQx := Lib.hid (Nat.ne_of_lt Qs.out.lt)
      have neQaQx := Lib.hid (Nat.ne_of_lt Qa.out.lt)
      have neQpQx := Lib.hid (Nat.ne_of_lt Qp.out.lt)
      have neQuQx := Lib.hid (Nat.ne_of_lt Qu.out.lt)
      have neQqQx := Lib.hid (Nat.ne_of_lt Qq.out.lt)
      have neQrQx := Lib.hid (Nat.ne_of_lt Qr.out.lt)
      have neQdQx := Lib.hid (Nat.ne_of_lt Qd.out.lt)
      have neXQx := Lib.hid (Nat.ne_of_lt X.out.lt)
      have geQx := Lib.hid HB.out.size
      have hb := al_below w15 (.cells #[.bool false, (.slice Ax lx cx), (.slice Bx mx dx)] 48)
      have F1' := Lib.hid (F1.out.up hb)
      clear F1
      have F1 := F1'
      clear F1'
      have F2' := Lib.hid (F2.out.up hb)
      clear F2
      have F2 := F2'
      clear F2'
      have Fs' := Lib.hid (Fs.out.up hb)
      clear Fs
      have Fs := Fs'
      clear Fs'
      have Fa' := Lib.hid (Fa.out.up hb)
      clear Fa
      have Fa := Fa'
      clear Fa'
      have Fp' := Lib.hid (Fp.out.up hb)
      clear Fp
      have Fp := Fp'
      clear Fp'
      have Fu' := Lib.hid (Fu.out.up hb)
      clear Fu
      have Fu := Fu'
      clear Fu'
      have Fq' := Lib.hid (Fq.out.up hb)
      clear Fq
      have Fq := Fq'
      clear Fq'
      have Fr' := Lib.hid (Fr.out.up hb)
      clear Fr
      have Fr := Fr'
      clear Fr'
      have Fx' := Lib.hid (Fx.out.up hb)
      clear Fx
      have Fx := Fx'
      clear Fx'
      have Qs' := Lib.hid (Qs.out.below hb Qs.out.lt)
      clear Qs
      have Qs := Qs'
      clear Qs'
      have Qa' := Lib.hid (Qa.out.below hb Qa.out.lt)
      clear Qa
      have Qa := Qa'
      clear Qa'
      have Qp' := Lib.hid (Qp.out.below hb Qp.out.lt)
      clear Qp
      have Qp := Qp'
      clear Qp'
      have Qu' := Lib.hid (Qu.out.below hb Qu.out.lt)
      clear Qu
      have Qu := Qu'
      clear Qu'
      have Qq' := Lib.hid (Qq.out.below hb Qq.out.lt)
      clear Qq
      have Qq := Qq'
      clear Qq'
      have Qr' := Lib.hid (Qr.out.below hb Qr.out.lt)
      clear Qr
      have Qr := Qr'
      clear Qr'
      have Qd' := Lib.hid (Qd.out.below hb Qd.out.lt)
      clear Qd
      have Qd := Qd'
      clear Qd'
      have X' := Lib.hid (X.out.below hb)
      clear X
      have X := X'
      clear X'
      have HB' := Lib.hid (HB.out.trans (hb.mono HB.out.size))
      clear HB
      have HB := HB'
      clear HB'
      clear hb
      have Qx := Lib.hid (QB.new w15 false (.slice Ax lx cx) (.slice Bx mx dx))
      have zX0 := X.out.c0
      have zX1 := X.out.c1
      have zX2 := X.out.c2
      have zX3 := X.out.c3
      have zX4 := X.out.c4
      have zX5 := X.out.c5
      have zX6 := X.out.c6
      have zQs0 := Qs.out.c0
      have zQs1 := Qs.out.c1
      have zQs2 := Qs.out.c2
      have zQa0 := Qa.out.c0
      have zQa1 := Qa.out.c1
      have zQa2 := Qa.out.c2
      have zQp0 := Qp.out.c0
      have zQp1 := Qp.out.c1
      have zQp2 := Qp.out.c2
      have zQu0 := Qu.out.c0
      have zQu1 := Qu.out.c1
      have zQu2 := Qu.out.c2
      have zQq0 := Qq.out.c0
      have zQq1 := Qq.out.c1
      have zQq2 := Qq.out.c2
      have zQr0 := Qr.out.c0
      have zQr1 := Qr.out.c1
      have zQr2 := Qr.out.c2
      have zQd0 := Qd.out.c0
      have zQd1 := Qd.out.c1
      have zQd2 := Qd.out.c2
      have zQx0 := Qx.out.c0
      have zQx1 := Qx.out.c1
      have zQx2 := Qx.out.c2
      go_wp2_with fail
      generalize w15.alloc (.cells #[.bool false, (.slice Ax lx cx), (.slice Bx mx dx)] 48) = wQx at *
      generalize w15.heap.size = gQx at *
      clear zX0 zX1 zX2 zX3 zX4 zX5 zX6 zQs0 zQs1 zQs2 zQa0 zQa1 zQa2 zQp0 zQp1 zQp2 zQu0 zQu1 zQu2 zQq0 zQq1 zQq2 zQr0 zQr1 zQr2 zQd0 zQd1 zQd2 zQx0 zQx1 zQx2
      clear Qs
      clear Qa
      clear Qp
      clear Qu
      clear Qq
      clear Qr
      clear Qd
      clear F1
      clear F2
      clear Fs
      clear Fa
      clear Fp
      clear Fu
      clear Fq
      clear Fr
      have HBd := Lib.hid HB.out.drew
      clear HB
      have HB := HBd
      clear HBd
      have Qx' := Lib.hid (show QB wQx.drew _ _ _ _ from Qx.out)
      clear Qx
      have Qx := Qx'
      clear Qx'
      have Fx' := Lib.hid (Fx.out.up (Below.refl _ _).drew)
      clear Fx
      have Fx := Fx'
      clear Fx'
      have zz0 := Qx.out.c0
      have zy0 : wQx.cell? ⟨gQx, 0, none⟩ = _ := Qx.out.c0
      have zz1 := Qx.out.c1
      have zy1 : wQx.cell? ⟨gQx, 1, none⟩ = _ := Qx.out.c1
      have zz2 := Qx.out.c2
      have zy2 : wQx.cell? ⟨gQx, 2, none⟩ = _ := Qx.out.c2
      refine wp_region_noPanic ?_
      refine wp_region_held_drew (S := (fun w' => w'.cell? ⟨gQx, 0, none⟩ = some (.bool false) ∧ w'.cell? ⟨gQx, 1, none⟩ = some (.slice Ax lx cx) ∧ w'.cell? ⟨gQx, 2, none⟩ = some (.slice Bx mx dx))) (by kernel_rfl) (by refine ⟨?_, ?_, ?_⟩ <;> first | with_reducible assumption | go_keep) (fun hHeld => ?_)
      refine wpAnyH_take (i := 0) (oi := ⟨some 210, _, _, _, _, _⟩) (v := ?_) rfl (by kernel_rfl) (by kernel_rfl) (by kernel_rfl) (fun _ _ _ h => h) (Or.inl ⟨by rfl, ?_⟩) (by assumption) ?_
      rotate_left
      · (intro w hSw; (try dsimp only at hSw); go_simp; (try (with_reducible rfl)))
      (try simp only [Act.put, List.setIfInBounds_toArray, List.set_cons_zero, List.set_cons_succ])
      refine wpAnyH_ready (rs := [1]) (by kernel_rfl) (by simp) (AllReadyH.cons (o := ⟨some 211, _, _, _, _, _⟩) rfl (fun K hK => ?_) AllReadyH.nil)
      rw [if_pos (by rfl)]
      go_simp
      go_at_call 69
      refine Calls.mono (aw_quo false 1 1 (by omega) (by omega) (by omega) (by omega) _) ?_
      rintro e x1 ⟨A9, l9, c9, B9, m9, d9, he, hn9, hd9, hb⟩
      subst he
      have Fx' := Lib.hid (Fx.out.up hb)
      clear Fx
      have Fx := Fx'
      clear Fx'
      have Qx' := Lib.hid (Qx.out.below hb Qx.out.lt)
      clear Qx
      have Qx := Qx'
      clear Qx'
      have HB' := Lib.hid (HB.out.trans (hb.mono HB.out.size))
      clear HB
      have HB := HB'
      clear HB'
      clear hb
      have F9 := Lib.hid (one_fq hn9 hd9)
      clear hn9 hd9
      have q10 := Qx.out.c0
      have q11 := Qx.out.c1
      have q12 := Qx.out.c2
      (try go_wp2_with fail)
      refine hK.out _ _ (by (try dsimp only); refine ⟨?_, ?_, ?_⟩ <;> first | with_reducible assumption | go_keep) (fun hHeld => ?_)
      clear hK K
      (try simp only [Act.put, List.setIfInBounds_toArray, List.set_cons_zero, List.set_cons_succ])
      refine wpAnyH_ready (rs := [2]) (by kernel_rfl) (by simp) (AllReadyH.cons (o := ⟨some 212, _, _, _, _, _⟩) rfl (fun K hK => ?_) AllReadyH.nil)
      rw [if_pos (by rfl)]
      go_simp
      go_at_call 58
      refine Calls.mono (CX.out ▸ pfcmp Fx.out F9.out (by omega) : Calls _ _ _ _ (fun e w' => e = .returned (.tuple #[.int .i64 (-1), .int .i64 0]) ∧ Below _ _ w')) ?_
      rintro e x2 ⟨he, hb⟩
      subst he
      clear F9
      have Fx' := Lib.hid (Fx.out.up hb)
      clear Fx
      have Fx := Fx'
      clear Fx'
      have Qx' := Lib.hid (Qx.out.below hb Qx.out.lt)
      clear Qx
      have Qx := Qx'
      clear Qx'
      have HB' := Lib.hid (HB.out.trans (hb.mono HB.out.size))
      clear HB
      have HB := HB'
      clear HB'
      clear hb
      have q20 := Qx.out.c0
      have q21 := Qx.out.c1
      have q22 := Qx.out.c2
      (try go_wp2_with fail)
      refine hK.out _ _ (by (try dsimp only); refine ⟨?_, ?_, ?_⟩ <;> first | with_reducible assumption | go_keep) (fun hHeld => ?_)
      clear hK K
      (try simp only [Act.put, List.setIfInBounds_toArray, List.set_cons_zero, List.set_cons_succ])
      refine wpAnyH_take (i := 3) (oi := ⟨some 209, _, _, _, _, _⟩) (v := ?_) rfl (by kernel_rfl) (by kernel_rfl) (by kernel_rfl) (fun _ _ _ h => h) (Or.inl ⟨by rfl, ?_⟩) (by assumption) ?_
      rotate_left
      · (intro w hSw; (try dsimp only at hSw); go_simp; (try (with_reducible rfl)))
      (try simp only [Act.put, List.setIfInBounds_toArray, List.set_cons_zero, List.set_cons_succ])
      refine wpAnyH_take (i := 4) (oi := ⟨some 213, _, _, _, _, _⟩) (v := ?_) rfl (by kernel_rfl) (by kernel_rfl) (by kernel_rfl) (fun _ _ _ h => h) (Or.inl ⟨by rfl, ?_⟩) (by assumption) ?_
      rotate_left
      · (intro w hSw; (try dsimp only at hSw); go_simp; (try (with_reducible rfl)))
      (try simp only [Act.put, List.setIfInBounds_toArray, List.set_cons_zero, List.set_cons_succ])
      refine wpAnyH_take (i := 5) (oi := ⟨some 214, _, _, _, _, _⟩) (v := ?_) rfl (by kernel_rfl) (by kernel_rfl) (by kernel_rfl) (fun _ _ _ h => h) (Or.inl ⟨by rfl, ?_⟩) (by assumption) ?_
      rotate_left
      · (intro w hSw; (try dsimp only at hSw); go_simp; (try (with_reducible rfl)))
      (try simp only [Act.put, List.setIfInBounds_toArray, List.set_cons_zero, List.set_cons_succ])
      refine wpAnyH_take (i := 6) (oi := ⟨some 22, _, _, _, _, _⟩) (v := ?_) rfl (by kernel_rfl) (by kernel_rfl) (by kernel_rfl) (fun _ _ _ h => h) (Or.inl ⟨by rfl, ?_⟩) (by assumption) ?_
      rotate_left
      · (intro w hSw; (try dsimp only at hSw); go_simp; (try (with_reducible rfl)))
      (try simp only [Act.put, List.setIfInBounds_toArray, List.set_cons_zero, List.set_cons_succ])
      refine wpAnyH_take (i := 7) (oi := ⟨some 12, _, _, _, _, _⟩) (v := ?_) rfl (by kernel_rfl) (by kernel_rfl) (by kernel_rfl) (fun _ _ _ h => h) (Or.inl ⟨by rfl, ?_⟩) (by assumption) ?_
      rotate_left
      · (intro w hSw; (try dsimp only at hSw); go_simp; (try (with_reducible rfl)))
      (try simp only [Act.put, List.setIfInBounds_toArray, List.set_cons_zero, List.set_cons_succ])
      refine wpAnyH_done (by kernel_rfl) ?_ _
      refine NoPanic.normal ?_
      go_wp2_with fail
      refine (awake_any _ (HT.out.below HB.out)).mono ?_
      rintro e x3 ⟨he, hb⟩
      subst he
      go_wp2_with fail
      go_ret
      exact ⟨rfl, HB.out.trans (hb.mono HB.out.size)⟩
    · have zX0 := X.out.c0
      have zX1 := X.out.c1
      have zX2 := X.out.c2
      have zX3 := X.out.c3
      have zX4 := X.out.c4
      have zX5 := X.out.c5
      have zX6 := X.out.c6
      have zQs0 := Qs.out.c0
      have zQs1 := Qs.out.c1
      have zQs2 := Qs.out.c2
      have zQa0 := Qa.out.c0
      have zQa1 := Qa.out.c1
      have zQa2 := Qa.out.c2
      have zQp0 := Qp.out.c0
      have zQp1 := Qp.out.c1
      have zQp2 := Qp.out.c2
      have zQu0 := Qu.out.c0
      have zQu1 := Qu.out.c1
      have zQu2 := Qu.out.c2
      have zQq0 := Qq.out.c0
      have zQq1 := Qq.out.c1
      have zQq2 := Qq.out.c2
      have zQr0 := Qr.out.c0
      have zQr1 := Qr.out.c1
      have zQr2 := Qr.out.c2
      have zQd0 := Qd.out.c0
      have zQd1 := Qd.out.c1
      have zQd2 := Qd.out.c2
      go_wp2_with fail
      refine (pffloor F1.out (by omega)).mono ?_
      rintro e w14 ⟨vf, he, hNf, hlf, hsf, hb⟩
      subst he
      clear zX0 zX1 zX2 zX3 zX4 zX5 zX6 zQs0 zQs1 zQs2 zQa0 zQa1 zQa2 zQp0 zQp1 zQp2 zQu0 zQu1 zQu2 zQq0 zQq1 zQq2 zQr0 zQr1 zQr2 zQd0 zQd1 zQd2
      have F1' := Lib.hid (F1.out.up hb)
      clear F1
      have F1 := F1'
      clear F1'
      have F2' := Lib.hid (F2.out.up hb)
      clear F2
      have F2 := F2'
      clear F2'
      have Fs' := Lib.hid (Fs.out.up hb)
      clear Fs
      have Fs := Fs'
      clear Fs'
      have Fa' := Lib.hid (Fa.out.up hb)
      clear Fa
      have Fa := Fa'
      clear Fa'
      have Fp' := Lib.hid (Fp.out.up hb)
      clear Fp
      have Fp := Fp'
      clear Fp'
      have Fu' := Lib.hid (Fu.out.up hb)
      clear Fu
      have Fu := Fu'
      clear Fu'
      have Fq' := Lib.hid (Fq.out.up hb)
      clear Fq
      have Fq := Fq'
      clear Fq'
      have Fr' := Lib.hid (Fr.out.up hb)
      clear Fr
      have Fr := Fr'
      clear Fr'
      have Qs' := Lib.hid (Qs.out.below hb Qs.out.lt)
      clear Qs
      have Qs := Qs'
      clear Qs'
      have Qa' := Lib.hid (Qa.out.below hb Qa.out.lt)
      clear Qa
      have Qa := Qa'
      clear Qa'
      have Qp' := Lib.hid (Qp.out.below hb Qp.out.lt)
      clear Qp
      have Qp := Qp'
      clear Qp'
      have Qu' := Lib.hid (Qu.out.below hb Qu.out.lt)
      clear Qu
      have Qu := Qu'
      clear Qu'
      have Qq' := Lib.hid (Qq.out.below hb Qq.out.lt)
      clear Qq
      have Qq := Qq'
      clear Qq'
      have Qr' := Lib.hid (Qr.out.below hb Qr.out.lt)
      clear Qr
      have Qr := Qr'
      clear Qr'
      have Qd' := Lib.hid (Qd.out.below hb Qd.out.lt)
      clear Qd
      have Qd := Qd'
      clear Qd'
      have X' := Lib.hid (X.out.below hb)
      clear X
      have X := X'
      clear X'
      have HB' := Lib.hid (HB.out.trans (hb.mono HB.out.size))
      clear HB
      have HB := HB'
      clear HB'
      clear hb
      obtain ⟨Af, cf, rfl, -⟩ := hNf.form
      generalize hfl : (dg (N1 / (D1 : Int)).natAbs).length = lf at *
      clear hfl hlf hsf
      have NF := Lib.hid hNf
      clear hNf
      have zX0 := X.out.c0
      have zX1 := X.out.c1
      have zX2 := X.out.c2
      have zX3 := X.out.c3
      have zX4 := X.out.c4
      have zX5 := X.out.c5
      have zX6 := X.out.c6
      have zQs0 := Qs.out.c0
      have zQs1 := Qs.out.c1
      have zQs2 := Qs.out.c2
      have zQa0 := Qa.out.c0
      have zQa1 := Qa.out.c1
      have zQa2 := Qa.out.c2
      have zQp0 := Qp.out.c0
      have zQp1 := Qp.out.c1
      have zQp2 := Qp.out.c2
      have zQu0 := Qu.out.c0
      have zQu1 := Qu.out.c1
      have zQu2 := Qu.out.c2
      have zQq0 := Qq.out.c0
      have zQq1 := Qq.out.c1
      have zQq2 := Qq.out.c2
      have zQr0 := Qr.out.c0
      have zQr1 := Qr.out.c1
      have zQr2 := Qr.out.c2
      have zQd0 := Qd.out.c0
      have zQd1 := Qd.out.c1
      have zQd2 := Qd.out.c2
      go_wp2_with fail
      have ho := one_new w14
      have hb := al_below w14 (.cells #[.int .u32 1] 64)
      have NF' := Lib.hid (NF.out.up hb)
      clear NF
      have NF := NF'
      clear NF'
      clear zX0 zX1 zX2 zX3 zX4 zX5 zX6 zQs0 zQs1 zQs2 zQa0 zQa1 zQa2 zQp0 zQp1 zQp2 zQu0 zQu1 zQu2 zQq0 zQq1 zQq2 zQr0 zQr1 zQr2 zQd0 zQd1 zQd2
      have F1' := Lib.hid (F1.out.up hb)
      clear F1
      have F1 := F1'
      clear F1'
      have F2' := Lib.hid (F2.out.up hb)
      clear F2
      have F2 := F2'
      clear F2'
      have Fs' := Lib.hid (Fs.out.up hb)
      clear Fs
      have Fs := Fs'
      clear Fs'
      have Fa' := Lib.hid (Fa.out.up hb)
      clear Fa
      have Fa := Fa'
      clear Fa'
      have Fp' := Lib.hid (Fp.out.up hb)
      clear Fp
      have Fp := Fp'
      clear Fp'
      have Fu' := Lib.hid (Fu.out.up hb)
      clear Fu
      have Fu := Fu'
      clear Fu'
      have Fq' := Lib.hid (Fq.out.up hb)
      clear Fq
      have Fq := Fq'
      clear Fq'
      have Fr' := Lib.hid (Fr.out.up hb)
      clear Fr
      have Fr := Fr'
      clear Fr'
      have Qs' := Lib.hid (Qs.out.below hb Qs.out.lt)
      clear Qs
      have Qs := Qs'
      clear Qs'
      have Qa' := Lib.hid (Qa.out.below hb Qa.out.lt)
      clear Qa
      have Qa := Qa'
      clear Qa'
      have Qp' := Lib.hid (Qp.out.below hb Qp.out.lt)
      clear Qp
      have Qp := Qp'
      clear Qp'
      have Qu' := Lib.hid (Qu.out.below hb Qu.out.lt)
      clear Qu
      have Qu := Qu'
      clear Qu'
      have Qq' := Lib.hid (Qq.out.below hb Qq.out.lt)
      clear Qq
      have Qq := Qq'
      clear Qq'
      have Qr' := Lib.hid (Qr.out.below hb Qr.out.lt)
      clear Qr
      have Qr := Qr'
      clear Qr'
      have Qd' := Lib.hid (Qd.out.below hb Qd.out.lt)
      clear Qd
      have Qd := Qd'
      clear Qd'
      have X' := Lib.hid (X.out.below hb)
      clear X
      have X := X'
      clear X'
      have HB' := Lib.hid (HB.out.trans (hb.mono HB.out.size))
      clear HB
      have HB := HB'
      clear HB'
      clear hb
      have FF := Lib.hid (floor_fq F1.out.sg E1.out NF.out (show Num (w14.alloc (.cells #[.int .u32 1] 64)) (w14.alloc (.cells #[.int .u32 1] 64)).heap.size _ 1 by rw [World.size_alloc]; exact ho) F1.out.ln)
      clear ho NF
      refine (pfsub F1.out FF.out (by omega)).mono ?_
      rintro e w15 ⟨sx, Ax, lx, cx, Bx, mx, dx, Nx, Dx, he, hFx, hPx, hb⟩
      subst he
      have F1' := Lib.hid (F1.out.up hb)
      clear F1
      have F1 := F1'
      clear F1'
      have F2' := Lib.hid (F2.out.up hb)
      clear F2
      have F2 := F2'
      clear F2'
      have Fs' := Lib.hid (Fs.out.up hb)
      clear Fs
      have Fs := Fs'
      clear Fs'
      have Fa' := Lib.hid (Fa.out.up hb)
      clear Fa
      have Fa := Fa'
      clear Fa'
      have Fp' := Lib.hid (Fp.out.up hb)
      clear Fp
      have Fp := Fp'
      clear Fp'
      have Fu' := Lib.hid (Fu.out.up hb)
      clear Fu
      have Fu := Fu'
      clear Fu'
      have Fq' := Lib.hid (Fq.out.up hb)
      clear Fq
      have Fq := Fq'
      clear Fq'
      have Fr' := Lib.hid (Fr.out.up hb)
      clear Fr
      have Fr := Fr'
      clear Fr'
      have Qs' := Lib.hid (Qs.out.below hb Qs.out.lt)
      clear Qs
      have Qs := Qs'
      clear Qs'
      have Qa' := Lib.hid (Qa.out.below hb Qa.out.lt)
      clear Qa
      have Qa := Qa'
      clear Qa'
      have Qp' := Lib.hid (Qp.out.below hb Qp.out.lt)
      clear Qp
      have Qp := Qp'
      clear Qp'
      have Qu' := Lib.hid (Qu.out.below hb Qu.out.lt)
      clear Qu
      have Qu := Qu'
      clear Qu'
      have Qq' := Lib.hid (Qq.out.below hb Qq.out.lt)
      clear Qq
      have Qq := Qq'
      clear Qq'
      have Qr' := Lib.hid (Qr.out.below hb Qr.out.lt)
      clear Qr
      have Qr := Qr'
      clear Qr'
      have Qd' := Lib.hid (Qd.out.below hb Qd.out.lt)
      clear Qd
      have Qd := Qd'
      clear Qd'
      have X' := Lib.hid (X.out.below hb)
      clear X
      have X := X'
      clear X'
      have HB' := Lib.hid (HB.out.trans (hb.mono HB.out.size))
      clear HB
      have HB := HB'
      clear HB'
      clear hb
      clear FF
      have hsm := rest_small E1.out hFx.ne hPx
      have hsx : sx = false := by rw [hFx.sg]; exact decide_eq_false (by have := hsm.1; omega)
      subst hsx
      have Fx := Lib.hid hFx
      have CX := Lib.hid (show cmp3 (Nx * ((1 : Nat) : Int)) (((1 : Nat) : Int) * (Dx : Int)) = -1 by unfold cmp3; rw [if_pos hsm.2])
      clear hFx hPx hsm
      have neQsQx := Lib.hid (Nat.ne_of_lt Qs.out.lt)
      have neQaQx := Lib.hid (Nat.ne_of_lt Qa.out.lt)
      have neQpQx := Lib.hid (Nat.ne_of_lt Qp.out.lt)
      have neQuQx := Lib.hid (Nat.ne_of_lt Qu.out.lt)
      have neQqQx := Lib.hid (Nat.ne_of_lt Qq.out.lt)
      have neQrQx := Lib.hid (Nat.ne_of_lt Qr.out.lt)
      have neQdQx := Lib.hid (Nat.ne_of_lt Qd.out.lt)
      have neXQx := Lib.hid (Nat.ne_of_lt X.out.lt)
      have geQx := Lib.hid HB.out.size
      have hb := al_below w15 (.cells #[.bool false, (.slice Ax lx cx), (.slice Bx mx dx)] 48)
      have F1' := Lib.hid (F1.out.up hb)
      clear F1
      have F1 := F1'
      clear F1'
      have F2' := Lib.hid (F2.out.up hb)
      clear F2
      have F2 := F2'
      clear F2'
      have Fs' := Lib.hid (Fs.out.up hb)
      clear Fs
      have Fs := Fs'
      clear Fs'
      have Fa' := Lib.hid (Fa.out.up hb)
      clear Fa
      have Fa := Fa'
      clear Fa'
      have Fp' := Lib.hid (Fp.out.up hb)
      clear Fp
      have Fp := Fp'
      clear Fp'
      have Fu' := Lib.hid (Fu.out.up hb)
      clear Fu
      have Fu := Fu'
      clear Fu'
      have Fq' := Lib.hid (Fq.out.up hb)
      clear Fq
      have Fq := Fq'
      clear Fq'
      have Fr' := Lib.hid (Fr.out.up hb)
      clear Fr
      have Fr := Fr'
      clear Fr'
      have Fx' := Lib.hid (Fx.out.up hb)
      clear Fx
      have Fx := Fx'
      clear Fx'
      have Qs' := Lib.hid (Qs.out.below hb Qs.out.lt)
      clear Qs
      have Qs := Qs'
      clear Qs'
      have Qa' := Lib.hid (Qa.out.below hb Qa.out.lt)
      clear Qa
      have Qa := Qa'
      clear Qa'
      have Qp' := Lib.hid (Qp.out.below hb Qp.out.lt)
      clear Qp
      have Qp := Qp'
      clear Qp'
      have Qu' := Lib.hid (Qu.out.below hb Qu.out.lt)
      clear Qu
      have Qu := Qu'
      clear Qu'
      have Qq' := Lib.hid (Qq.out.below hb Qq.out.lt)
      clear Qq
      have Qq := Qq'
      clear Qq'
      have Qr' := Lib.hid (Qr.out.below hb Qr.out.lt)
      clear Qr
      have Qr := Qr'
      clear Qr'
      have Qd' := Lib.hid (Qd.out.below hb Qd.out.lt)
      clear Qd
      have Qd := Qd'
      clear Qd'
      have X' := Lib.hid (X.out.below hb)
      clear X
      have X := X'
      clear X'
      have HB' := Lib.hid (HB.out.trans (hb.mono HB.out.size))
      clear HB
      have HB := HB'
      clear HB'
      clear hb
      have Qx := Lib.hid (QB.new w15 false (.slice Ax lx cx) (.slice Bx mx dx))
      have zX0 := X.out.c0
      have zX1 := X.out.c1
      have zX2 := X.out.c2
      have zX3 := X.out.c3
      have zX4 := X.out.c4
      have zX5 := X.out.c5
      have zX6 := X.out.c6
      have zQs0 := Qs.out.c0
      have zQs1 := Qs.out.c1
      have zQs2 := Qs.out.c2
      have zQa0 := Qa.out.c0
      have zQa1 := Qa.out.c1
      have zQa2 := Qa.out.c2
      have zQp0 := Qp.out.c0
      have zQp1 := Qp.out.c1
      have zQp2 := Qp.out.c2
      have zQu0 := Qu.out.c0
      have zQu1 := Qu.out.c1
      have zQu2 := Qu.out.c2
      have zQq0 := Qq.out.c0
      have zQq1 := Qq.out.c1
      have zQq2 := Qq.out.c2
      have zQr0 := Qr.out.c0
      have zQr1 := Qr.out.c1
      have zQr2 := Qr.out.c2
      have zQd0 := Qd.out.c0
      have zQd1 := Qd.out.c1
      have zQd2 := Qd.out.c2
      have zQx0 := Qx.out.c0
      have zQx1 := Qx.out.c1
      have zQx2 := Qx.out.c2
      go_wp2_with fail
      generalize w15.alloc (.cells #[.bool false, (.slice Ax lx cx), (.slice Bx mx dx)] 48) = wQx at *
      generalize w15.heap.size = gQx at *
      clear zX0 zX1 zX2 zX3 zX4 zX5 zX6 zQs0 zQs1 zQs2 zQa0 zQa1 zQa2 zQp0 zQp1 zQp2 zQu0 zQu1 zQu2 zQq0 zQq1 zQq2 zQr0 zQr1 zQr2 zQd0 zQd1 zQd2 zQx0 zQx1 zQx2
      clear Qs
      clear Qa
      clear Qp
      clear Qu
      clear Qq
      clear Qr
      clear Qd
      clear F1
      clear F2
      clear Fs
      clear Fa
      clear Fp
      clear Fu
      clear Fq
      clear Fr
      have HBd := Lib.hid HB.out.drew
      clear HB
      have HB := HBd
      clear HBd
      have Qx' := Lib.hid (show QB wQx.drew _ _ _ _ from Qx.out)
      clear Qx
      have Qx := Qx'
      clear Qx'
      have Fx' := Lib.hid (Fx.out.up (Below.refl _ _).drew)
      clear Fx
      have Fx := Fx'
      clear Fx'
      have zz0 := Qx.out.c0
      have zy0 : wQx.cell? ⟨gQx, 0, none⟩ = _ := Qx.out.c0
      have zz1 := Qx.out.c1
      have zy1 : wQx.cell? ⟨gQx, 1, none⟩ = _ := Qx.out.c1
      have zz2 := Qx.out.c2
      have zy2 : wQx.cell? ⟨gQx, 2, none⟩ = _ := Qx.out.c2
      refine wp_region_noPanic ?_
      refine wp_region_held_drew (S := (fun w' => w'.cell? ⟨gQx, 0, none⟩ = some (.bool false) ∧ w'.cell? ⟨gQx, 1, none⟩ = some (.slice Ax lx cx) ∧ w'.cell? ⟨gQx, 2, none⟩ = some (.slice Bx mx dx))) (by kernel_rfl) (by refine ⟨?_, ?_, ?_⟩ <;> first | with_reducible assumption | go_keep) (fun hHeld => ?_)
      refine wpAnyH_take (i := 0) (oi := ⟨some 210, _, _, _, _, _⟩) (v := ?_) rfl (by kernel_rfl) (by kernel_rfl) (by kernel_rfl) (fun _ _ _ h => h) (Or.inl ⟨by rfl, ?_⟩) (by assumption) ?_
      rotate_left
      · (intro w hSw; (try dsimp only at hSw); go_simp; (try (with_reducible rfl)))
      (try simp only [Act.put, List.setIfInBounds_toArray, List.set_cons_zero, List.set_cons_succ])
      refine wpAnyH_ready (rs := [1]) (by kernel_rfl) (by simp) (AllReadyH.cons (o := ⟨some 211, _, _, _, _, _⟩) rfl (fun K hK => ?_) AllReadyH.nil)
      rw [if_pos (by rfl)]
      go_simp
      go_at_call 69
      refine Calls.mono (aw_quo false 1 1 (by omega) (by omega) (by omega) (by omega) _) ?_
      rintro e x1 ⟨A9, l9, c9, B9, m9, d9, he, hn9, hd9, hb⟩
      subst he
      have Fx' := Lib.hid (Fx.out.up hb)
      clear Fx
      have Fx := Fx'
      clear Fx'
      have Qx' := Lib.hid (Qx.out.below hb Qx.out.lt)
      clear Qx
      have Qx := Qx'
      clear Qx'
      have HB' := Lib.hid (HB.out.trans (hb.mono HB.out.size))
      clear HB
      have HB := HB'
      clear HB'
      clear hb
      have F9 := Lib.hid (one_fq hn9 hd9)
      clear hn9 hd9
      have q10 := Qx.out.c0
      have q11 := Qx.out.c1
      have q12 := Qx.out.c2
      (try go_wp2_with fail)
      refine hK.out _ _ (by (try dsimp only); refine ⟨?_, ?_, ?_⟩ <;> first | with_reducible assumption | go_keep) (fun hHeld => ?_)
      clear hK K
      (try simp only [Act.put, List.setIfInBounds_toArray, List.set_cons_zero, List.set_cons_succ])
      refine wpAnyH_ready (rs := [2]) (by kernel_rfl) (by simp) (AllReadyH.cons (o := ⟨some 212, _, _, _, _, _⟩) rfl (fun K hK => ?_) AllReadyH.nil)
      rw [if_pos (by rfl)]
      go_simp
      go_at_call 58
      refine Calls.mono (CX.out ▸ pfcmp Fx.out F9.out (by omega) : Calls _ _ _ _ (fun e w' => e = .returned (.tuple #[.int .i64 (-1), .int .i64 0]) ∧ Below _ _ w')) ?_
      rintro e x2 ⟨he, hb⟩
      subst he
      clear F9
      have Fx' := Lib.hid (Fx.out.up hb)
      clear Fx
      have Fx := Fx'
      clear Fx'
      have Qx' := Lib.hid (Qx.out.below hb Qx.out.lt)
      clear Qx
      have Qx := Qx'
      clear Qx'
      have HB' := Lib.hid (HB.out.trans (hb.mono HB.out.size))
      clear HB
      have HB := HB'
      clear HB'
      clear hb
      have q20 := Qx.out.c0
      have q21 := Qx.out.c1
      have q22 := Qx.out.c2
      (try go_wp2_with fail)
      refine hK.out _ _ (by (try dsimp only); refine ⟨?_, ?_, ?_⟩ <;> first | with_reducible assumption | go_keep) (fun hHeld => ?_)
      clear hK K
      (try simp only [Act.put, List.setIfInBounds_toArray, List.set_cons_zero, List.set_cons_succ])
      refine wpAnyH_take (i := 3) (oi := ⟨some 209, _, _, _, _, _⟩) (v := ?_) rfl (by kernel_rfl) (by kernel_rfl) (by kernel_rfl) (fun _ _ _ h => h) (Or.inl ⟨by rfl, ?_⟩) (by assumption) ?_
      rotate_left
      · (intro w hSw; (try dsimp only at hSw); go_simp; (try (with_reducible rfl)))
      (try simp only [Act.put, List.setIfInBounds_toArray, List.set_cons_zero, List.set_cons_succ])
      refine wpAnyH_take (i := 4) (oi := ⟨some 213, _, _, _, _, _⟩) (v := ?_) rfl (by kernel_rfl) (by kernel_rfl) (by kernel_rfl) (fun _ _ _ h => h) (Or.inl ⟨by rfl, ?_⟩) (by assumption) ?_
      rotate_left
      · (intro w hSw; (try dsimp only at hSw); go_simp; (try (with_reducible rfl)))
      (try simp only [Act.put, List.setIfInBounds_toArray, List.set_cons_zero, List.set_cons_succ])
      refine wpAnyH_take (i := 5) (oi := ⟨some 214, _, _, _, _, _⟩) (v := ?_) rfl (by kernel_rfl) (by kernel_rfl) (by kernel_rfl) (fun _ _ _ h => h) (Or.inl ⟨by rfl, ?_⟩) (by assumption) ?_
      rotate_left
      · (intro w hSw; (try dsimp only at hSw); go_simp; (try (with_reducible rfl)))
      (try simp only [Act.put, List.setIfInBounds_toArray, List.set_cons_zero, List.set_cons_succ])
      refine wpAnyH_take (i := 6) (oi := ⟨some 22, _, _, _, _, _⟩) (v := ?_) rfl (by kernel_rfl) (by kernel_rfl) (by kernel_rfl) (fun _ _ _ h => h) (Or.inl ⟨by rfl, ?_⟩) (by assumption) ?_
      rotate_left
      · (intro w hSw; (try dsimp only at hSw); go_simp; (try (with_reducible rfl)))
      (try simp only [Act.put, List.setIfInBounds_toArray, List.set_cons_zero, List.set_cons_succ])
      refine wpAnyH_take (i := 7) (oi := ⟨some 12, _, _, _, _, _⟩) (v := ?_) rfl (by kernel_rfl) (by kernel_rfl) (by kernel_rfl) (fun _ _ _ h => h) (Or.inl ⟨by rfl, ?_⟩) (by assumption) ?_
      rotate_left
      · (intro w hSw; (try dsimp only at hSw); go_simp; (try (with_reducible rfl)))
      (try simp only [Act.put, List.setIfInBounds_toArray, List.set_cons_zero, List.set_cons_succ])
      refine wpAnyH_done (by kernel_rfl) ?_ _
      refine NoPanic.normal ?_
      go_wp2_with fail
      refine (awake_any _ (HT.out.below HB.out)).mono ?_
      rintro e x3 ⟨he, hb⟩
      subst he
      go_wp2_with fail
      go_ret
      exact ⟨rfl, HB.out.trans (hb.mono HB.out.size)⟩
    · have hlI : ((ld : Int) == 0) = false := beq_eq_false_iff_ne.2 (by omega)
      have hlJ : (ld : Int) ≠ 0 := by omega
      clear hl
      have zX0 := X.out.c0
      have zX1 := X.out.c1
      have zX2 := X.out.c2
      have zX3 := X.out.c3
      have zX4 := X.out.c4
      have zX5 := X.out.c5
      have zX6 := X.out.c6
      have zQs0 := Qs.out.c0
      have zQs1 := Qs.out.c1
      have zQs2 := Qs.out.c2
      have zQa0 := Qa.out.c0
      have zQa1 := Qa.out.c1
      have zQa2 := Qa.out.c2
      have zQp0 := Qp.out.c0
      have zQp1 := Qp.out.c1
      have zQp2 := Qp.out.c2
      have zQu0 := Qu.out.c0
      have zQu1 := Qu.out.c1
      have zQu2 := Qu.out.c2
      have zQq0 := Qq.out.c0
      have zQq1 := Qq.out.c1
      have zQq2 := Qq.out.c2
      have zQr0 := Qr.out.c0
      have zQr1 := Qr.out.c1
      have zQr2 := Qr.out.c2
      have zQd0 := Qd.out.c0
      have zQd1 := Qd.out.c1
      have zQd2 := Qd.out.c2
      go_wp2_with fail
      refine (pffloor F1.out (by omega)).mono ?_
      rintro e w14 ⟨vf, he, hNf, hlf, hsf, hb⟩
      subst he
      clear zX0 zX1 zX2 zX3 zX4 zX5 zX6 zQs0 zQs1 zQs2 zQa0 zQa1 zQa2 zQp0 zQp1 zQp2 zQu0 zQu1 zQu2 zQq0 zQq1 zQq2 zQr0 zQr1 zQr2 zQd0 zQd1 zQd2
      have F1' := Lib.hid (F1.out.up hb)
      clear F1
      have F1 := F1'
      clear F1'
      have F2' := Lib.hid (F2.out.up hb)
      clear F2
      have F2 := F2'
      clear F2'
      have Fs' := Lib.hid (Fs.out.up hb)
      clear Fs
      have Fs := Fs'
      clear Fs'
      have Fa' := Lib.hid (Fa.out.up hb)
      clear Fa
      have Fa := Fa'
      clear Fa'
      have Fp' := Lib.hid (Fp.out.up hb)
      clear Fp
      have Fp := Fp'
      clear Fp'
      have Fu' := Lib.hid (Fu.out.up hb)
      clear Fu
      have Fu := Fu'
      clear Fu'
      have Fq' := Lib.hid (Fq.out.up hb)
      clear Fq
      have Fq := Fq'
      clear Fq'
      have Fr' := Lib.hid (Fr.out.up hb)
      clear Fr
      have Fr := Fr'
      clear Fr'
      have Qs' := Lib.hid (Qs.out.below hb Qs.out.lt)
      clear Qs
      have Qs := Qs'
      clear Qs'
      have Qa' := Lib.hid (Qa.out.below hb Qa.out.lt)
      clear Qa
      have Qa := Qa'
      clear Qa'
      have Qp' := Lib.hid (Qp.out.below hb Qp.out.lt)
      clear Qp
      have Qp := Qp'
      clear Qp'
      have Qu' := Lib.hid (Qu.out.below hb Qu.out.lt)
      clear Qu
      have Qu := Qu'
      clear Qu'
      have Qq' := Lib.hid (Qq.out.below hb Qq.out.lt)
      clear Qq
      have Qq := Qq'
      clear Qq'
      have Qr' := Lib.hid (Qr.out.below hb Qr.out.lt)
      clear Qr
      have Qr := Qr'
      clear Qr'
      have Qd' := Lib.hid (Qd.out.below hb Qd.out.lt)
      clear Qd
      have Qd := Qd'
      clear Qd'
      have X' := Lib.hid (X.out.below hb)
      clear X
      have X := X'
      clear X'
      have HB' := Lib.hid (HB.out.trans (hb.mono HB.out.size))
      clear HB
      have HB := HB'
      clear HB'
      clear hb
      obtain ⟨Af, cf, rfl, -⟩ := hNf.form
      generalize hfl : (dg (N1 / (D1 : Int)).natAbs).length = lf at *
      clear hfl hlf hsf
      have NF := Lib.hid hNf
      clear hNf
      have zX0 := X.out.c0
      have zX1 := X.out.c1
      have zX2 := X.out.c2
      have zX3 := X.out.c3
      have zX4 := X.out.c4
      have zX5 := X.out.c5
      have zX6 := X.out.c6
      have zQs0 := Qs.out.c0
      have zQs1 := Qs.out.c1
      have zQs2 := Qs.out.c2
      have zQa0 := Qa.out.c0
      have zQa1 := Qa.out.c1
      have zQa2 := Qa.out.c2
      have zQp0 := Qp.out.c0
      have zQp1 := Qp.out.c1
      have zQp2 := Qp.out.c2
      have zQu0 := Qu.out.c0
      have zQu1 := Qu.out.c1
      have zQu2 := Qu.out.c2
      have zQq0 := Qq.out.c0
      have zQq1 := Qq.out.c1
      have zQq2 := Qq.out.c2
      have zQr0 := Qr.out.c0
      have zQr1 := Qr.out.c1
      have zQr2 := Qr.out.c2
      have zQd0 := Qd.out.c0
      have zQd1 := Qd.out.c1
      have zQd2 := Qd.out.c2
      go_wp2_with fail
      have ho := one_new w14
      have hb := al_below w14 (.cells #[.int .u32 1] 64)
      have NF' := Lib.hid (NF.out.up hb)
      clear NF
      have NF := NF'
      clear NF'
      clear zX0 zX1 zX2 zX3 zX4 zX5 zX6 zQs0 zQs1 zQs2 zQa0 zQa1 zQa2 zQp0 zQp1 zQp2 zQu0 zQu1 zQu2 zQq0 zQq1 zQq2 zQr0 zQr1 zQr2 zQd0 zQd1 zQd2
      have F1' := Lib.hid (F1.out.up hb)
      clear F1
      have F1 := F1'
      clear F1'
      have F2' := Lib.hid (F2.out.up hb)
      clear F2
      have F2 := F2'
      clear F2'
      have Fs' := Lib.hid (Fs.out.up hb)
      clear Fs
      have Fs := Fs'
      clear Fs'
      have Fa' := Lib.hid (Fa.out.up hb)
      clear Fa
      have Fa := Fa'
      clear Fa'
      have Fp' := Lib.hid (Fp.out.up hb)
      clear Fp
      have Fp := Fp'
      clear Fp'
      have Fu' := Lib.hid (Fu.out.up hb)
      clear Fu
      have Fu := Fu'
      clear Fu'
      have Fq' := Lib.hid (Fq.out.up hb)
      clear Fq
      have Fq := Fq'
      clear Fq'
      have Fr' := Lib.hid (Fr.out.up hb)
      clear Fr
      have Fr := Fr'
      clear Fr'
      have Qs' := Lib.hid (Qs.out.below hb Qs.out.lt)
      clear Qs
      have Qs := Qs'
      clear Qs'
      have Qa' := Lib.hid (Qa.out.below hb Qa.out.lt)
      clear Qa
      have Qa := Qa'
      clear Qa'
      have Qp' := Lib.hid (Qp.out.below hb Qp.out.lt)
      clear Qp
      have Qp := Qp'
      clear Qp'
      have Qu' := Lib.hid (Qu.out.below hb Qu.out.lt)
      clear Qu
      have Qu := Qu'
      clear Qu'
      have Qq' := Lib.hid (Qq.out.below hb Qq.out.lt)
      clear Qq
      have Qq := Qq'
      clear Qq'
      have Qr' := Lib.hid (Qr.out.below hb Qr.out.lt)
      clear Qr
      have Qr := Qr'
      clear Qr'
      have Qd' := Lib.hid (Qd.out.below hb Qd.out.lt)
      clear Qd
      have Qd := Qd'
      clear Qd'
      have X' := Lib.hid (X.out.below hb)
      clear X
      have X := X'
      clear X'
      have HB' := Lib.hid (HB.out.trans (hb.mono HB.out.size))
      clear HB
      have HB := HB'
      clear HB'
      clear hb
      have FF := Lib.hid (floor_fq F1.out.sg E1.out NF.out (show Num (w14.alloc (.cells #[.int .u32 1] 64)) (w14.alloc (.cells #[.int .u32 1] 64)).heap.size _ 1 by rw [World.size_alloc]; exact ho) F1.out.ln)
      clear ho NF
      refine (pfsub F1.out FF.out (by omega)).mono ?_
      rintro e w15 ⟨sx, Ax, lx, cx, Bx, mx, dx, Nx, Dx, he, hFx, hPx, hb⟩
      subst he
      have F1' := Lib.hid (F1.out.up hb)
      clear F1
      have F1 := F1'
      clear F1'
      have F2' := Lib.hid (F2.out.up hb)
      clear F2
      have F2 := F2'
      clear F2'
      have Fs' := Lib.hid (Fs.out.up hb)
      clear Fs
      have Fs := Fs'
      clear Fs'
      have Fa' := Lib.hid (Fa.out.up hb)
      clear Fa
      have Fa := Fa'
      clear Fa'
      have Fp' := Lib.hid (Fp.out.up hb)
      clear Fp
      have Fp := Fp'
      clear Fp'
      have Fu' := Lib.hid (Fu.out.up hb)
      clear Fu
      have Fu := Fu'
      clear Fu'
      have Fq' := Lib.hid (Fq.out.up hb)
      clear Fq
      have Fq := Fq'
      clear Fq'
      have Fr' := Lib.hid (Fr.out.up hb)
      clear Fr
      have Fr := Fr'
      clear Fr'
      have Qs' := Lib.hid (Qs.out.below hb Qs.out.lt)
      clear Qs
      have Qs := Qs'
      clear Qs'
      have Qa' := Lib.hid (Qa.out.below hb Qa.out.lt)
      clear Qa
      have Qa := Qa'
      clear Qa'
      have Qp' := Lib.hid (Qp.out.below hb Qp.out.lt)
      clear Qp
      have Qp := Qp'
      clear Qp'
      have Qu' := Lib.hid (Qu.out.below hb Qu.out.lt)
      clear Qu
      have Qu := Qu'
      clear Qu'
      have Qq' := Lib.hid (Qq.out.below hb Qq.out.lt)
      clear Qq
      have Qq := Qq'
      clear Qq'
      have Qr' := Lib.hid (Qr.out.below hb Qr.out.lt)
      clear Qr
      have Qr := Qr'
      clear Qr'
      have Qd' := Lib.hid (Qd.out.below hb Qd.out.lt)
      clear Qd
      have Qd := Qd'
      clear Qd'
      have X' := Lib.hid (X.out.below hb)
      clear X
      have X := X'
      clear X'
      have HB' := Lib.hid (HB.out.trans (hb.mono HB.out.size))
      clear HB
      have HB := HB'
      clear HB'
      clear hb
      clear FF
      have hsm := rest_small E1.out hFx.ne hPx
      have hsx : sx = false := by rw [hFx.sg]; exact decide_eq_false (by have := hsm.1; omega)
      subst hsx
      have Fx := Lib.hid hFx
      have CX := Lib.hid (show cmp3 (Nx * ((1 : Nat) : Int)) (((1 : Nat) : Int) * (Dx : Int)) = -1 by unfold cmp3; rw [if_pos hsm.2])
      clear hFx hPx hsm
      have neQsQx := Lib.hid (Nat.ne_of_lt Qs.out.lt)
      have neQaQx := Lib.hid (Nat.ne_of_lt Qa.out.lt)
      have neQpQx := Lib.hid (Nat.ne_of_lt Qp.out.lt)
      have neQuQx := Lib.hid (Nat.ne_of_lt Qu.out.lt)
      have neQqQx := Lib.hid (Nat.ne_of_lt Qq.out.lt)
      have neQrQx := Lib.hid (Nat.ne_of_lt Qr.out.lt)
      have neQdQx := Lib.hid (Nat.ne_of_lt Qd.out.lt)
      have neXQx := Lib.hid (Nat.ne_of_lt X.out.lt)
      have geQx := Lib.hid HB.out.size
      have hb := al_below w15 (.cells #[.bool false, (.slice Ax lx cx), (.slice Bx mx dx)] 48)
      have F1' := Lib.hid (F1.out.up hb)
      clear F1
      have F1 := F1'
      clear F1'
      have F2' := Lib.hid (F2.out.up hb)
      clear F2
      have F2 := F2'
      clear F2'
      have Fs' := Lib.hid (Fs.out.up hb)
      clear Fs
      have Fs := Fs'
      clear Fs'
      have Fa' := Lib.hid (Fa.out.up hb)
      clear Fa
      have Fa := Fa'
      clear Fa'
      have Fp' := Lib.hid (Fp.out.up hb)
      clear Fp
      have Fp := Fp'
      clear Fp'
      have Fu' := Lib.hid (Fu.out.up hb)
      clear Fu
      have Fu := Fu'
      clear Fu'
      have Fq' := Lib.hid (Fq.out.up hb)
      clear Fq
      have Fq := Fq'
      clear Fq'
      have Fr' := Lib.hid (Fr.out.up hb)
      clear Fr
      have Fr := Fr'
      clear Fr'
      have Fx' := Lib.hid (Fx.out.up hb)
      clear Fx
      have Fx := Fx'
      clear Fx'
      have Qs' := Lib.hid (Qs.out.below hb Qs.out.lt)
      clear Qs
      have Qs := Qs'
      clear Qs'
      have Qa' := Lib.hid (Qa.out.below hb Qa.out.lt)
      clear Qa
      have Qa := Qa'
      clear Qa'
      have Qp' := Lib.hid (Qp.out.below hb Qp.out.lt)
      clear Qp
      have Qp := Qp'
      clear Qp'
      have Qu' := Lib.hid (Qu.out.below hb Qu.out.lt)
      clear Qu
      have Qu := Qu'
      clear Qu'
      have Qq' := Lib.hid (Qq.out.below hb Qq.out.lt)
      clear Qq
      have Qq := Qq'
      clear Qq'
      have Qr' := Lib.hid (Qr.out.below hb Qr.out.lt)
      clear Qr
      have Qr := Qr'
      clear Qr'
      have Qd' := Lib.hid (Qd.out.below hb Qd.out.lt)
      clear Qd
      have Qd := Qd'
      clear Qd'
      have X' := Lib.hid (X.out.below hb)
      clear X
      have X := X'
      clear X'
      have HB' := Lib.hid (HB.out.trans (hb.mono HB.out.size))
      clear HB
      have HB := HB'
      clear HB'
      clear hb
      have Qx := Lib.hid (QB.new w15 false (.slice Ax lx cx) (.slice Bx mx dx))
      have zX0 := X.out.c0
      have zX1 := X.out.c1
      have zX2 := X.out.c2
      have zX3 := X.out.c3
      have zX4 := X.out.c4
      have zX5 := X.out.c5
      have zX6 := X.out.c6
      have zQs0 := Qs.out.c0
      have zQs1 := Qs.out.c1
      have zQs2 := Qs.out.c2
      have zQa0 := Qa.out.c0
      have zQa1 := Qa.out.c1
      have zQa2 := Qa.out.c2
      have zQp0 := Qp.out.c0
      have zQp1 := Qp.out.c1
      have zQp2 := Qp.out.c2
      have zQu0 := Qu.out.c0
      have zQu1 := Qu.out.c1
      have zQu2 := Qu.out.c2
      have zQq0 := Qq.out.c0
      have zQq1 := Qq.out.c1
      have zQq2 := Qq.out.c2
      have zQr0 := Qr.out.c0
      have zQr1 := Qr.out.c1
      have zQr2 := Qr.out.c2
      have zQd0 := Qd.out.c0
      have zQd1 := Qd.out.c1
      have zQd2 := Qd.out.c2
      have zQx0 := Qx.out.c0
      have zQx1 := Qx.out.c1
      have zQx2 := Qx.out.c2
      go_wp2_with fail
      generalize w15.alloc (.cells #[.bool false, (.slice Ax lx cx), (.slice Bx mx dx)] 48) = wQx at *
      generalize w15.heap.size = gQx at *
      clear zX0 zX1 zX2 zX3 zX4 zX5 zX6 zQs0 zQs1 zQs2 zQa0 zQa1 zQa2 zQp0 zQp1 zQp2 zQu0 zQu1 zQu2 zQq0 zQq1 zQq2 zQr0 zQr1 zQr2 zQd0 zQd1 zQd2 zQx0 zQx1 zQx2
      clear Qs
      clear Qa
      clear Qp
      clear Qu
      clear Qq
      clear Qr
      clear Qd
      clear F1
      clear F2
      clear Fs
      clear Fa
      clear Fp
      clear Fu
      clear Fq
      clear Fr
      have HBd := Lib.hid HB.out.drew
      clear HB
      have HB := HBd
      clear HBd
      have Qx' := Lib.hid (show QB wQx.drew _ _ _ _ from Qx.out)
      clear Qx
      have Qx := Qx'
      clear Qx'
      have Fx' := Lib.hid (Fx.out.up (Below.refl _ _).drew)
      clear Fx
      have Fx := Fx'
      clear Fx'
      have zz0 := Qx.out.c0
      have zy0 : wQx.cell? ⟨gQx, 0, none⟩ = _ := Qx.out.c0
      have zz1 := Qx.out.c1
      have zy1 : wQx.cell? ⟨gQx, 1, none⟩ = _ := Qx.out.c1
      have zz2 := Qx.out.c2
      have zy2 : wQx.cell? ⟨gQx, 2, none⟩ = _ := Qx.out.c2
      refine wp_region_noPanic ?_
      refine wp_region_held_drew (S := (fun w' => w'.cell? ⟨gQx, 0, none⟩ = some (.bool false) ∧ w'.cell? ⟨gQx, 1, none⟩ = some (.slice Ax lx cx) ∧ w'.cell? ⟨gQx, 2, none⟩ = some (.slice Bx mx dx))) (by kernel_rfl) (by refine ⟨?_, ?_, ?_⟩ <;> first | with_reducible assumption | go_keep) (fun hHeld => ?_)
      refine wpAnyH_take (i := 0) (oi := ⟨some 210, _, _, _, _, _⟩) (v := ?_) rfl (by kernel_rfl) (by kernel_rfl) (by kernel_rfl) (fun _ _ _ h => h) (Or.inl ⟨by rfl, ?_⟩) (by assumption) ?_
      rotate_left
      · (intro w hSw; (try dsimp only at hSw); go_simp; (try (with_reducible rfl)))
      (try simp only [Act.put, List.setIfInBounds_toArray, List.set_cons_zero, List.set_cons_succ])
      refine wpAnyH_ready (rs := [1]) (by kernel_rfl) (by simp) (AllReadyH.cons (o := ⟨some 211, _, _, _, _, _⟩) rfl (fun K hK => ?_) AllReadyH.nil)
      rw [if_pos (by rfl)]
      go_simp
      go_at_call 69
      refine Calls.mono (aw_quo false 1 1 (by omega) (by omega) (by omega) (by omega) _) ?_
      rintro e x1 ⟨A9, l9, c9, B9, m9, d9, he, hn9, hd9, hb⟩
      subst he
      have Fx' := Lib.hid (Fx.out.up hb)
      clear Fx
      have Fx := Fx'
      clear Fx'
      have Qx' := Lib.hid (Qx.out.below hb Qx.out.lt)
      clear Qx
      have Qx := Qx'
      clear Qx'
      have HB' := Lib.hid (HB.out.trans (hb.mono HB.out.size))
      clear HB
      have HB := HB'
      clear HB'
      clear hb
      have F9 := Lib.hid (one_fq hn9 hd9)
      clear hn9 hd9
      have q10 := Qx.out.c0
      have q11 := Qx.out.c1
      have q12 := Qx.out.c2
      (try go_wp2_with fail)
      refine hK.out _ _ (by (try dsimp only); refine ⟨?_, ?_, ?_⟩ <;> first | with_reducible assumption | go_keep) (fun hHeld => ?_)
      clear hK K
      (try simp only [Act.put, List.setIfInBounds_toArray, List.set_cons_zero, List.set_cons_succ])
      refine wpAnyH_ready (rs := [2]) (by kernel_rfl) (by simp) (AllReadyH.cons (o := ⟨some 212, _, _, _, _, _⟩) rfl (fun K hK => ?_) AllReadyH.nil)
      rw [if_pos (by rfl)]
      go_simp
      go_at_call 58
      refine Calls.mono (CX.out ▸ pfcmp Fx.out F9.out (by omega) : Calls _ _ _ _ (fun e w' => e = .returned (.tuple #[.int .i64 (-1), .int .i64 0]) ∧ Below _ _ w')) ?_
      rintro e x2 ⟨he, hb⟩
      subst he
      clear F9
      have Fx' := Lib.hid (Fx.out.up hb)
      clear Fx
      have Fx := Fx'
      clear Fx'
      have Qx' := Lib.hid (Qx.out.below hb Qx.out.lt)
      clear Qx
      have Qx := Qx'
      clear Qx'
      have HB' := Lib.hid (HB.out.trans (hb.mono HB.out.size))
      clear HB
      have HB := HB'
      clear HB'
      clear hb
      have q20 := Qx.out.c0
      have q21 := Qx.out.c1
      have q22 := Qx.out.c2
      (try go_wp2_with fail)
      refine hK.out _ _ (by (try dsimp only); refine ⟨?_, ?_, ?_⟩ <;> first | with_reducible assumption | go_keep) (fun hHeld => ?_)
      clear hK K
      (try simp only [Act.put, List.setIfInBounds_toArray, List.set_cons_zero, List.set_cons_succ])
      refine wpAnyH_take (i := 3) (oi := ⟨some 209, _, _, _, _, _⟩) (v := ?_) rfl (by kernel_rfl) (by kernel_rfl) (by kernel_rfl) (fun _ _ _ h => h) (Or.inl ⟨by rfl, ?_⟩) (by assumption) ?_
      rotate_left
      · (intro w hSw; (try dsimp only at hSw); go_simp; (try (with_reducible rfl)))
      (try simp only [Act.put, List.setIfInBounds_toArray, List.set_cons_zero, List.set_cons_succ])
      refine wpAnyH_take (i := 4) (oi := ⟨some 213, _, _, _, _, _⟩) (v := ?_) rfl (by kernel_rfl) (by kernel_rfl) (by kernel_rfl) (fun _ _ _ h => h) (Or.inl ⟨by rfl, ?_⟩) (by assumption) ?_
      rotate_left
      · (intro w hSw; (try dsimp only at hSw); go_simp; (try (with_reducible rfl)))
      (try simp only [Act.put, List.setIfInBounds_toArray, List.set_cons_zero, List.set_cons_succ])
      refine wpAnyH_take (i := 5) (oi := ⟨some 214, _, _, _, _, _⟩) (v := ?_) rfl (by kernel_rfl) (by kernel_rfl) (by kernel_rfl) (fun _ _ _ h => h) (Or.inl ⟨by rfl, ?_⟩) (by assumption) ?_
      rotate_left
      · (intro w hSw; (try dsimp only at hSw); go_simp; (try (with_reducible rfl)))
      (try simp only [Act.put, List.setIfInBounds_toArray, List.set_cons_zero, List.set_cons_succ])
      refine wpAnyH_take (i := 6) (oi := ⟨some 22, _, _, _, _, _⟩) (v := ?_) rfl (by kernel_rfl) (by kernel_rfl) (by kernel_rfl) (fun _ _ _ h => h) (Or.inl ⟨by rfl, ?_⟩) (by assumption) ?_
      rotate_left
      · (intro w hSw; (try dsimp only at hSw); go_simp; (try (with_reducible rfl)))
      (try simp only [Act.put, List.setIfInBounds_toArray, List.set_cons_zero, List.set_cons_succ])
      refine wpAnyH_take (i := 7) (oi := ⟨some 12, _, _, _, _, _⟩) (v := ?_) rfl (by kernel_rfl) (by kernel_rfl) (by kernel_rfl) (fun _ _ _ h => h) (Or.inl ⟨by rfl, ?_⟩) (by assumption) ?_
      rotate_left
      · (intro w hSw; (try dsimp only at hSw); go_simp; (try (with_reducible rfl)))
      (try simp only [Act.put, List.setIfInBounds_toArray, List.set_cons_zero, List.set_cons_succ])
      refine wpAnyH_done (by kernel_rfl) ?_ _
      refine NoPanic.normal ?_
      go_wp2_with fail
      refine (awake_any _ (HT.out.below HB.out)).mono ?_
      rintro e x3 ⟨he, hb⟩
      subst he
      go_wp2_with fail
      go_ret
      exact ⟨rfl, HB.out.trans (hb.mono HB.out.size)⟩
  · have hn0 : n2 ≠ 0 := fun h => h0 (HZ2.out.1 h)
    have t9 : (0 : Int) < (n2 : Int) := by omega
    clear hn0
    have H0 := Lib.hid h0
    clear h0
    have zX0 := X.out.c0
    have zX1 := X.out.c1
    have zX2 := X.out.c2
    have zX3 := X.out.c3
    have zX4 := X.out.c4
    have zX5 := X.out.c5
    have zX6 := X.out.c6
    have zQs0 := Qs.out.c0
    have zQs1 := Qs.out.c1
    have zQs2 := Qs.out.c2
    have zQa0 := Qa.out.c0
    have zQa1 := Qa.out.c1
    have zQa2 := Qa.out.c2
    have zQp0 := Qp.out.c0
    have zQp1 := Qp.out.c1
    have zQp2 := Qp.out.c2
    have zQu0 := Qu.out.c0
    have zQu1 := Qu.out.c1
    have zQu2 := Qu.out.c2
    have zQq0 := Qq.out.c0
    have zQq1 := Qq.out.c1
    have zQq2 := Qq.out.c2
    have zQr0 := Qr.out.c0
    have zQr1 := Qr.out.c1
    have zQr2 := Qr.out.c2
    go_wp2_with fail
    refine (pfdiv Fp.out F2.out (by omega) H0.out).mono ?_
    rintro e w11 ⟨sv, Av, lv, cv, Bv, mv, dv, Nv, Dv, he, hFv, hPv, hb⟩
    subst he
    clear zX0 zX1 zX2 zX3 zX4 zX5 zX6 zQs0 zQs1 zQs2 zQa0 zQa1 zQa2 zQp0 zQp1 zQp2 zQu0 zQu1 zQu2 zQq0 zQq1 zQq2 zQr0 zQr1 zQr2
    have F1' := Lib.hid (F1.out.up hb)
    clear F1
    have F1 := F1'
    clear F1'
    have F2' := Lib.hid (F2.out.up hb)
    clear F2
    have F2 := F2'
    clear F2'
    have Fs' := Lib.hid (Fs.out.up hb)
    clear Fs
    have Fs := Fs'
    clear Fs'
    have Fa' := Lib.hid (Fa.out.up hb)
    clear Fa
    have Fa := Fa'
    clear Fa'
    have Fp' := Lib.hid (Fp.out.up hb)
    clear Fp
    have Fp := Fp'
    clear Fp'
    have Fu' := Lib.hid (Fu.out.up hb)
    clear Fu
    have Fu := Fu'
    clear Fu'
    have Fq' := Lib.hid (Fq.out.up hb)
    clear Fq
    have Fq := Fq'
    clear Fq'
    have Fr' := Lib.hid (Fr.out.up hb)
    clear Fr
    have Fr := Fr'
    clear Fr'
    have Qs' := Lib.hid (Qs.out.below hb Qs.out.lt)
    clear Qs
    have Qs := Qs'
    clear Qs'
    have Qa' := Lib.hid (Qa.out.below hb Qa.out.lt)
    clear Qa
    have Qa := Qa'
    clear Qa'
    have Qp' := Lib.hid (Qp.out.below hb Qp.out.lt)
    clear Qp
    have Qp := Qp'
    clear Qp'
    have Qu' := Lib.hid (Qu.out.below hb Qu.out.lt)
    clear Qu
    have Qu := Qu'
    clear Qu'
    have Qq' := Lib.hid (Qq.out.below hb Qq.out.lt)
    clear Qq
    have Qq := Qq'
    clear Qq'
    have Qr' := Lib.hid (Qr.out.below hb Qr.out.lt)
    clear Qr
    have Qr := Qr'
    clear Qr'
    have X' := Lib.hid (X.out.below hb)
    clear X
    have X := X'
    clear X'
    have HB' := Lib.hid (HB.out.trans (hb.mono HB.out.size))
    clear HB
    have HB := HB'
    clear HB'
    clear hb
    have Fv := Lib.hid hFv
    have Pv := Lib.hid hPv
    clear hFv hPv
    have neQsQv := Lib.hid (Nat.ne_of_lt Qs.out.lt)
    have neQaQv := Lib.hid (Nat.ne_of_lt Qa.out.lt)
    have neQpQv := Lib.hid (Nat.ne_of_lt Qp.out.lt)
    have neQuQv := Lib.hid (Nat.ne_of_lt Qu.out.lt)
    have neQqQv := Lib.hid (Nat.ne_of_lt Qq.out.lt)
    have neQrQv := Lib.hid (Nat.ne_of_lt Qr.out.lt)
    have neXQv := Lib.hid (Nat.ne_of_lt X.out.lt)
    have geQv := Lib.hid HB.out.size
    have hb := al_below w11 (.cells #[.bool sv, (.slice Av lv cv), (.slice Bv mv dv)] 48)
    have F1' := Lib.hid (F1.out.up hb)
    clear F1
    have F1 := F1'
    clear F1'
    have F2' := Lib.hid (F2.out.up hb)
    clear F2
    have F2 := F2'
    clear F2'
    have Fs' := Lib.hid (Fs.out.up hb)
    clear Fs
    have Fs := Fs'
    clear Fs'
    have Fa' := Lib.hid (Fa.out.up hb)
    clear Fa
    have Fa := Fa'
    clear Fa'
    have Fp' := Lib.hid (Fp.out.up hb)
    clear Fp
    have Fp := Fp'
    clear Fp'
    have Fu' := Lib.hid (Fu.out.up hb)
    clear Fu
    have Fu := Fu'
    clear Fu'
    have Fq' := Lib.hid (Fq.out.up hb)
    clear Fq
    have Fq := Fq'
    clear Fq'
    have Fr' := Lib.hid (Fr.out.up hb)
    clear Fr
    have Fr := Fr'
    clear Fr'
    have Fv' := Lib.hid (Fv.out.up hb)
    clear Fv
    have Fv := Fv'
    clear Fv'
    have Qs' := Lib.hid (Qs.out.below hb Qs.out.lt)
    clear Qs
    have Qs := Qs'
    clear Qs'
    have Qa' := Lib.hid (Qa.out.below hb Qa.out.lt)
    clear Qa
    have Qa := Qa'
    clear Qa'
    have Qp' := Lib.hid (Qp.out.below hb Qp.out.lt)
    clear Qp
    have Qp := Qp'
    clear Qp'
    have Qu' := Lib.hid (Qu.out.below hb Qu.out.lt)
    clear Qu
    have Qu := Qu'
    clear Qu'
    have Qq' := Lib.hid (Qq.out.below hb Qq.out.lt)
    clear Qq
    have Qq := Qq'
    clear Qq'
    have Qr' := Lib.hid (Qr.out.below hb Qr.out.lt)
    clear Qr
    have Qr := Qr'
    clear Qr'
    have X' := Lib.hid (X.out.below hb)
    clear X
    have X := X'
    clear X'
    have HB' := Lib.hid (HB.out.trans (hb.mono HB.out.size))
    clear HB
    have HB := HB'
    clear HB'
    clear hb
    have Qv := Lib.hid (QB.new w11 sv (.slice Av lv cv) (.slice Bv mv dv))
    have zX0 := X.out.c0
    have zX1 := X.out.c1
    have zX2 := X.out.c2
    have zX3 := X.out.c3
    have zX4 := X.out.c4
    have zX5 := X.out.c5
    have zX6 := X.out.c6
    have zQs0 := Qs.out.c0
    have zQs1 := Qs.out.c1
    have zQs2 := Qs.out.c2
    have zQa0 := Qa.out.c0
    have zQa1 := Qa.out.c1
    have zQa2 := Qa.out.c2
    have zQp0 := Qp.out.c0
    have zQp1 := Qp.out.c1
    have zQp2 := Qp.out.c2
    have zQu0 := Qu.out.c0
    have zQu1 := Qu.out.c1
    have zQu2 := Qu.out.c2
    have zQq0 := Qq.out.c0
    have zQq1 := Qq.out.c1
    have zQq2 := Qq.out.c2
    have zQr0 := Qr.out.c0
    have zQr1 := Qr.out.c1
    have zQr2 := Qr.out.c2
    have zQv0 := Qv.out.c0
    have zQv1 := Qv.out.c1
    have zQv2 := Qv.out.c2
    go_wp2_with fail
    generalize w11.alloc (.cells #[.bool sv, (.slice Av lv cv), (.slice Bv mv dv)] 48) = wQv at *
    generalize w11.heap.size = gQv at *
    obtain ⟨g, hg1, hg2, hg3⟩ := sg_parts H0.out
    have pv := Pv.out
    rw [natmul, hg3 D2] at pv
    have pp := Pp.out
    rw [natmul] at pp
    have zp : (Dp : Int) ≠ 0 := by have := Fp.out.ne; omega
    have zm : ((N2.natAbs : Nat) : Int) ≠ 0 := by have := H0.out; omega
    have cV := quo_cross zm zp pp g ⟨hg1, hg2⟩ pv
    have CV := Lib.hid cV
    clear hg1 hg2 hg3 pv pp zp zm cV
    refine (fq_same Fv.out F1.out (by omega) (by omega) CV.out).mono ?_
    rintro e w12 ⟨he, hb⟩
    subst he
    clear zX0 zX1 zX2 zX3 zX4 zX5 zX6 zQs0 zQs1 zQs2 zQa0 zQa1 zQa2 zQp0 zQp1 zQp2 zQu0 zQu1 zQu2 zQq0 zQq1 zQq2 zQr0 zQr1 zQr2 zQv0 zQv1 zQv2
    have F1' := Lib.hid (F1.out.up hb)
    clear F1
    have F1 := F1'
    clear F1'
    have F2' := Lib.hid (F2.out.up hb)
    clear F2
    have F2 := F2'
    clear F2'
    have Fs' := Lib.hid (Fs.out.up hb)
    clear Fs
    have Fs := Fs'
    clear Fs'
    have Fa' := Lib.hid (Fa.out.up hb)
    clear Fa
    have Fa := Fa'
    clear Fa'
    have Fp' := Lib.hid (Fp.out.up hb)
    clear Fp
    have Fp := Fp'
    clear Fp'
    have Fu' := Lib.hid (Fu.out.up hb)
    clear Fu
    have Fu := Fu'
    clear Fu'
    have Fq' := Lib.hid (Fq.out.up hb)
    clear Fq
    have Fq := Fq'
    clear Fq'
    have Fr' := Lib.hid (Fr.out.up hb)
    clear Fr
    have Fr := Fr'
    clear Fr'
    have Fv' := Lib.hid (Fv.out.up hb)
    clear Fv
    have Fv := Fv'
    clear Fv'
    have Qs' := Lib.hid (Qs.out.below hb Qs.out.lt)
    clear Qs
    have Qs := Qs'
    clear Qs'
    have Qa' := Lib.hid (Qa.out.below hb Qa.out.lt)
    clear Qa
    have Qa := Qa'
    clear Qa'
    have Qp' := Lib.hid (Qp.out.below hb Qp.out.lt)
    clear Qp
    have Qp := Qp'
    clear Qp'
    have Qu' := Lib.hid (Qu.out.below hb Qu.out.lt)
    clear Qu
    have Qu := Qu'
    clear Qu'
    have Qq' := Lib.hid (Qq.out.below hb Qq.out.lt)
    clear Qq
    have Qq := Qq'
    clear Qq'
    have Qr' := Lib.hid (Qr.out.below hb Qr.out.lt)
    clear Qr
    have Qr := Qr'
    clear Qr'
    have Qv' := Lib.hid (Qv.out.below hb Qv.out.lt)
    clear Qv
    have Qv := Qv'
    clear Qv'
    have X' := Lib.hid (X.out.below hb)
    clear X
    have X := X'
    clear X'
    have HB' := Lib.hid (HB.out.trans (hb.mono HB.out.size))
    clear HB
    have HB := HB'
    clear HB'
    clear hb
    clear HZ2 Ps Pa Pp Pu Pq Pr Pv CA CR CV H0
    have zX0 := X.out.c0
    have zX1 := X.out.c1
    have zX2 := X.out.c2
    have zX3 := X.out.c3
    have zX4 := X.out.c4
    have zX5 := X.out.c5
    have zX6 := X.out.c6
    have zQs0 := Qs.out.c0
    have zQs1 := Qs.out.c1
    have zQs2 := Qs.out.c2
    have zQa0 := Qa.out.c0
    have zQa1 := Qa.out.c1
    have zQa2 := Qa.out.c2
    have zQp0 := Qp.out.c0
    have zQp1 := Qp.out.c1
    have zQp2 := Qp.out.c2
    have zQu0 := Qu.out.c0
    have zQu1 := Qu.out.c1
    have zQu2 := Qu.out.c2
    have zQq0 := Qq.out.c0
    have zQq1 := Qq.out.c1
    have zQq2 := Qq.out.c2
    have zQr0 := Qr.out.c0
    have zQr1 := Qr.out.c1
    have zQr2 := Qr.out.c2
    have zQv0 := Qv.out.c0
    have zQv1 := Qv.out.c1
    have zQv2 := Qv.out.c2
    go_wp2_with fail
    refine (pfsub F1.out F2.out (by omega)).mono ?_
    rintro e w13 ⟨sd, Ad, ld, cd, Bd, md, dd, Nd, Dd, he, hFd, hPd, hb⟩
    subst he
    clear zX0 zX1 zX2 zX3 zX4 zX5 zX6 zQs0 zQs1 zQs2 zQa0 zQa1 zQa2 zQp0 zQp1 zQp2 zQu0 zQu1 zQu2 zQq0 zQq1 zQq2 zQr0 zQr1 zQr2 zQv0 zQv1 zQv2
    have F1' := Lib.hid (F1.out.up hb)
    clear F1
    have F1 := F1'
    clear F1'
    have F2' := Lib.hid (F2.out.up hb)
    clear F2
    have F2 := F2'
    clear F2'
    have Fs' := Lib.hid (Fs.out.up hb)
    clear Fs
    have Fs := Fs'
    clear Fs'
    have Fa' := Lib.hid (Fa.out.up hb)
    clear Fa
    have Fa := Fa'
    clear Fa'
    have Fp' := Lib.hid (Fp.out.up hb)
    clear Fp
    have Fp := Fp'
    clear Fp'
    have Fu' := Lib.hid (Fu.out.up hb)
    clear Fu
    have Fu := Fu'
    clear Fu'
    have Fq' := Lib.hid (Fq.out.up hb)
    clear Fq
    have Fq := Fq'
    clear Fq'
    have Fr' := Lib.hid (Fr.out.up hb)
    clear Fr
    have Fr := Fr'
    clear Fr'
    have Fv' := Lib.hid (Fv.out.up hb)
    clear Fv
    have Fv := Fv'
    clear Fv'
    have Qs' := Lib.hid (Qs.out.below hb Qs.out.lt)
    clear Qs
    have Qs := Qs'
    clear Qs'
    have Qa' := Lib.hid (Qa.out.below hb Qa.out.lt)
    clear Qa
    have Qa := Qa'
    clear Qa'
    have Qp' := Lib.hid (Qp.out.below hb Qp.out.lt)
    clear Qp
    have Qp := Qp'
    clear Qp'
    have Qu' := Lib.hid (Qu.out.below hb Qu.out.lt)
    clear Qu
    have Qu := Qu'
    clear Qu'
    have Qq' := Lib.hid (Qq.out.below hb Qq.out.lt)
    clear Qq
    have Qq := Qq'
    clear Qq'
    have Qr' := Lib.hid (Qr.out.below hb Qr.out.lt)
    clear Qr
    have Qr := Qr'
    clear Qr'
    have Qv' := Lib.hid (Qv.out.below hb Qv.out.lt)
    clear Qv
    have Qv := Qv'
    clear Qv'
    have X' := Lib.hid (X.out.below hb)
    clear X
    have X := X'
    clear X'
    have HB' := Lib.hid (HB.out.trans (hb.mono HB.out.size))
    clear HB
    have HB := HB'
    clear HB'
    clear hb
    have Fd := Lib.hid hFd
    have Pd := Lib.hid hPd
    clear hFd hPd
    have neQsQd := Lib.hid (Nat.ne_of_lt Qs.out.lt)
    have neQaQd := Lib.hid (Nat.ne_of_lt Qa.out.lt)
    have neQpQd := Lib.hid (Nat.ne_of_lt Qp.out.lt)
    have neQuQd := Lib.hid (Nat.ne_of_lt Qu.out.lt)
    have neQqQd := Lib.hid (Nat.ne_of_lt Qq.out.lt)
    have neQrQd := Lib.hid (Nat.ne_of_lt Qr.out.lt)
    have neQvQd := Lib.hid (Nat.ne_of_lt Qv.out.lt)
    have neXQd := Lib.hid (Nat.ne_of_lt X.out.lt)
    have geQd := Lib.hid HB.out.size
    have hb := al_below w13 (.cells #[.bool sd, (.slice Ad ld cd), (.slice Bd md dd)] 48)
    have F1' := Lib.hid (F1.out.up hb)
    clear F1
    have F1 := F1'
    clear F1'
    have F2' := Lib.hid (F2.out.up hb)
    clear F2
    have F2 := F2'
    clear F2'
    have Fs' := Lib.hid (Fs.out.up hb)
    clear Fs
    have Fs := Fs'
    clear Fs'
    have Fa' := Lib.hid (Fa.out.up hb)
    clear Fa
    have Fa := Fa'
    clear Fa'
    have Fp' := Lib.hid (Fp.out.up hb)
    clear Fp
    have Fp := Fp'
    clear Fp'
    have Fu' := Lib.hid (Fu.out.up hb)
    clear Fu
    have Fu := Fu'
    clear Fu'
    have Fq' := Lib.hid (Fq.out.up hb)
    clear Fq
    have Fq := Fq'
    clear Fq'
    have Fr' := Lib.hid (Fr.out.up hb)
    clear Fr
    have Fr := Fr'
    clear Fr'
    have Fv' := Lib.hid (Fv.out.up hb)
    clear Fv
    have Fv := Fv'
    clear Fv'
    have Fd' := Lib.hid (Fd.out.up hb)
    clear Fd
    have Fd := Fd'
    clear Fd'
    have Qs' := Lib.hid (Qs.out.below hb Qs.out.lt)
    clear Qs
    have Qs := Qs'
    clear Qs'
    have Qa' := Lib.hid (Qa.out.below hb Qa.out.lt)
    clear Qa
    have Qa := Qa'
    clear Qa'
    have Qp' := Lib.hid (Qp.out.below hb Qp.out.lt)
    clear Qp
    have Qp := Qp'
    clear Qp'
    have Qu' := Lib.hid (Qu.out.below hb Qu.out.lt)
    clear Qu
    have Qu := Qu'
    clear Qu'
    have Qq' := Lib.hid (Qq.out.below hb Qq.out.lt)
    clear Qq
    have Qq := Qq'
    clear Qq'
    have Qr' := Lib.hid (Qr.out.below hb Qr.out.lt)
    clear Qr
    have Qr := Qr'
    clear Qr'
    have Qv' := Lib.hid (Qv.out.below hb Qv.out.lt)
    clear Qv
    have Qv := Qv'
    clear Qv'
    have X' := Lib.hid (X.out.below hb)
    clear X
    have X := X'
    clear X'
    have HB' := Lib.hid (HB.out.trans (hb.mono HB.out.size))
    clear HB
    have HB := HB'
    clear HB'
    clear hb
    have Qd := Lib.hid (QB.new w13 sd (.slice Ad ld cd) (.slice Bd md dd))
    have zX0 := X.out.c0
    have zX1 := X.out.c1
    have zX2 := X.out.c2
    have zX3 := X.out.c3
    have zX4 := X.out.c4
    have zX5 := X.out.c5
    have zX6 := X.out.c6
    have zQs0 := Qs.out.c0
    have zQs1 := Qs.out.c1
    have zQs2 := Qs.out.c2
    have zQa0 := Qa.out.c0
    have zQa1 := Qa.out.c1
    have zQa2 := Qa.out.c2
    have zQp0 := Qp.out.c0
    have zQp1 := Qp.out.c1
    have zQp2 := Qp.out.c2
    have zQu0 := Qu.out.c0
    have zQu1 := Qu.out.c1
    have zQu2 := Qu.out.c2
    have zQq0 := Qq.out.c0
    have zQq1 := Qq.out.c1
    have zQq2 := Qq.out.c2
    have zQr0 := Qr.out.c0
    have zQr1 := Qr.out.c1
    have zQr2 := Qr.out.c2
    have zQv0 := Qv.out.c0
    have zQv1 := Qv.out.c1
    have zQv2 := Qv.out.c2
    have zQd0 := Qd.out.c0
    have zQd1 := Qd.out.c1
    have zQd2 := Qd.out.c2
    go_wp2_with fail
    generalize w13.alloc (.cells #[.bool sd, (.slice Ad ld cd), (.slice Bd md dd)] 48) = wQd at *
    generalize w13.heap.size = gQd at *
    have hds := diff_sign (K := (D1 : Int) * D2) (A := N1 * D2) (B := N2 * D1) (Int.mul_pos (by have := E1.out; omega) (by have := E2.out; omega)) (show (0 : Int) < (Dd : Int) by have := Fd.out.ne; omega) (show Nd * ((D1 : Int) * D2) = (N1 * D2 - N2 * D1) * Dd by have := Pd.out; rw [natmul] at this; exact this)
    have hsd := Fd.out.sg
    have hld : (ld = 0) ↔ Nd = 0 := by
      have e : (dg Nd.natAbs).length = ld := by
        obtain ⟨_, _, e, _⟩ := Fd.out.num.form
        injection e with _ e _
        exact e.symm
      rw [← e]
      constructor
      · intro h; have := dg_zero_iff.1 h; omega
      · intro h; rw [h]; simp [dg_zero]
    obtain ⟨cc, hcc, hc⟩ : ∃ cc : Int, cmp3 (N1 * (D2 : Int)) (N2 * (D1 : Int)) = cc ∧ ((cc = -1 ∧ sd = true ∧ ld ≠ 0) ∨ (cc = 0 ∧ sd = false ∧ ld = 0) ∨ (cc = 1 ∧ sd = false ∧ ld ≠ 0)) := by
      refine ⟨_, rfl, ?_⟩
      unfold cmp3
      by_cases h1 : N1 * (D2 : Int) < N2 * (D1 : Int)
      · rw [if_pos h1]
        have a := hds.1.2 h1
        exact .inl ⟨rfl, by rw [hsd]; exact decide_eq_true a, fun h => by have := hld.1 h; omega⟩
      · rw [if_neg h1]
        have a : ¬ Nd < 0 := fun h => h1 (hds.1.1 h)
        by_cases h2 : N1 * (D2 : Int) = N2 * (D1 : Int)
        · rw [if_pos h2]
          exact .inr (.inl ⟨rfl, by rw [hsd]; exact decide_eq_false a, hld.2 (hds.2.2 h2)⟩)
        · rw [if_neg h2]
          exact .inr (.inr ⟨rfl, by rw [hsd]; exact decide_eq_false a, fun h => h2 (hds.2.1 (hld.1 h))⟩)
    have HCC := Lib.hid hcc
    clear hds hsd hld hcc Pd
    refine ((HCC.out ▸ pfcmp F1.out F2.out (by omega) : Calls _ _ _ _ (fun e w' => e = .returned (.tuple #[.int .i64 cc, .int .i64 0]) ∧ Below _ _ w'))).mono ?_
    rintro e w14 ⟨he, hb⟩
    subst he
    clear zX0 zX1 zX2 zX3 zX4 zX5 zX6 zQs0 zQs1 zQs2 zQa0 zQa1 zQa2 zQp0 zQp1 zQp2 zQu0 zQu1 zQu2 zQq0 zQq1 zQq2 zQr0 zQr1 zQr2 zQv0 zQv1 zQv2 zQd0 zQd1 zQd2
    have F1' := Lib.hid (F1.out.up hb)
    clear F1
    have F1 := F1'
    clear F1'
    have F2' := Lib.hid (F2.out.up hb)
    clear F2
    have F2 := F2'
    clear F2'
    have Fs' := Lib.hid (Fs.out.up hb)
    clear Fs
    have Fs := Fs'
    clear Fs'
    have Fa' := Lib.hid (Fa.out.up hb)
    clear Fa
    have Fa := Fa'
    clear Fa'
    have Fp' := Lib.hid (Fp.out.up hb)
    clear Fp
    have Fp := Fp'
    clear Fp'
    have Fu' := Lib.hid (Fu.out.up hb)
    clear Fu
    have Fu := Fu'
    clear Fu'
    have Fq' := Lib.hid (Fq.out.up hb)
    clear Fq
    have Fq := Fq'
    clear Fq'
    have Fr' := Lib.hid (Fr.out.up hb)
    clear Fr
    have Fr := Fr'
    clear Fr'
    have Fv' := Lib.hid (Fv.out.up hb)
    clear Fv
    have Fv := Fv'
    clear Fv'
    have Fd' := Lib.hid (Fd.out.up hb)
    clear Fd
    have Fd := Fd'
    clear Fd'
    have Qs' := Lib.hid (Qs.out.below hb Qs.out.lt)
    clear Qs
    have Qs := Qs'
    clear Qs'
    have Qa' := Lib.hid (Qa.out.below hb Qa.out.lt)
    clear Qa
    have Qa := Qa'
    clear Qa'
    have Qp' := Lib.hid (Qp.out.below hb Qp.out.lt)
    clear Qp
    have Qp := Qp'
    clear Qp'
    have Qu' := Lib.hid (Qu.out.below hb Qu.out.lt)
    clear Qu
    have Qu := Qu'
    clear Qu'
    have Qq' := Lib.hid (Qq.out.below hb Qq.out.lt)
    clear Qq
    have Qq := Qq'
    clear Qq'
    have Qr' := Lib.hid (Qr.out.below hb Qr.out.lt)
    clear Qr
    have Qr := Qr'
    clear Qr'
    have Qv' := Lib.hid (Qv.out.below hb Qv.out.lt)
    clear Qv
    have Qv := Qv'
    clear Qv'
    have Qd' := Lib.hid (Qd.out.below hb Qd.out.lt)
    clear Qd
    have Qd := Qd'
    clear Qd'
    have X' := Lib.hid (X.out.below hb)
    clear X
    have X := X'
    clear X'
    have HB' := Lib.hid (HB.out.trans (hb.mono HB.out.size))
    clear HB
    have HB := HB'
    clear HB'
    clear hb
    clear HCC Fd
    rcases hc with ⟨rfl, rfl, hl⟩ | ⟨rfl, rfl, rfl⟩ | ⟨rfl, rfl, hl⟩
    · have hlI : ((ld : Int) == 0) = false := beq_eq_false_iff_ne.2 (by omega)
      have hlJ : (ld : Int) ≠ 0 := by omega
      clear hl
      have zX0 := X.out.c0
      have zX1 := X.out.c1
      have zX2 := X.out.c2
      have zX3 := X.out.c3
      have zX4 := X.out.c4
      have zX5 := X.out.c5
      have zX6 := X.out.c6
      have zQs0 := Qs.out.c0
      have zQs1 := Qs.out.c1
      have zQs2 := Qs.out.c2
      have zQa0 := Qa.out.c0
      have zQa1 := Qa.out.c1
      have zQa2 := Qa.out.c2
      have zQp0 := Qp.out.c0
      have zQp1 := Qp.out.c1
      have zQp2 := Qp.out.c2
      have zQu0 := Qu.out.c0
      have zQu1 := Qu.out.c1
      have zQu2 := Qu.out.c2
      have zQq0 := Qq.out.c0
      have zQq1 := Qq.out.c1
      have zQq2 := Qq.out.c2
      have zQr0 := Qr.out.c0
      have zQr1 := Qr.out.c1
      have zQr2 := Qr.out.c2
      have zQv0 := Qv.out.c0
      have zQv1 := Qv.out.c1
      have zQv2 := Qv.out.c2
      have zQd0 := Qd.out.c0
      have zQd1 := Qd.out.c1
      have zQd2 := Qd.out.c2
      go_wp2_with fail
      refine (pffloor F1.out (by omega)).mono ?_
      rintro e w16 ⟨vf, he, hNf, hlf, hsf, hb⟩
      subst he
      clear zX0 zX1 zX2 zX3 zX4 zX5 zX6 zQs0 zQs1 zQs2 zQa0 zQa1 zQa2 zQp0 zQp1 zQp2 zQu0 zQu1 zQu2 zQq0 zQq1 zQq2 zQr0 zQr1 zQr2 zQv0 zQv1 zQv2 zQd0 zQd1 zQd2
      have F1' := Lib.hid (F1.out.up hb)
      clear F1
      have F1 := F1'
      clear F1'
      have F2' := Lib.hid (F2.out.up hb)
      clear F2
      have F2 := F2'
      clear F2'
      have Fs' := Lib.hid (Fs.out.up hb)
      clear Fs
      have Fs := Fs'
      clear Fs'
      have Fa' := Lib.hid (Fa.out.up hb)
      clear Fa
      have Fa := Fa'
      clear Fa'
      have Fp' := Lib.hid (Fp.out.up hb)
      clear Fp
      have Fp := Fp'
      clear Fp'
      have Fu' := Lib.hid (Fu.out.up hb)
      clear Fu
      have Fu := Fu'
      clear Fu'
      have Fq' := Lib.hid (Fq.out.up hb)
      clear Fq
      have Fq := Fq'
      clear Fq'
      have Fr' := Lib.hid (Fr.out.up hb)
      clear Fr
      have Fr := Fr'
      clear Fr'
      have Fv' := Lib.hid (Fv.out.up hb)
      clear Fv
      have Fv := Fv'
      clear Fv'
      have Qs' := Lib.hid (Qs.out.below hb Qs.out.lt)
      clear Qs
      have Qs := Qs'
      clear Qs'
      have Qa' := Lib.hid (Qa.out.below hb Qa.out.lt)
      clear Qa
      have Qa := Qa'
      clear Qa'
      have Qp' := Lib.hid (Qp.out.below hb Qp.out.lt)
      clear Qp
      have Qp := Qp'
      clear Qp'
      have Qu' := Lib.hid (Qu.out.below hb Qu.out.lt)
      clear Qu
      have Qu := Qu'
      clear Qu'
      have Qq' := Lib.hid (Qq.out.below hb Qq.out.lt)
      clear Qq
      have Qq := Qq'
      clear Qq'
      have Qr' := Lib.hid (Qr.out.below hb Qr.out.lt)
      clear Qr
      have Qr := Qr'
      clear Qr'
      have Qv' := Lib.hid (Qv.out.below hb Qv.out.lt)
      clear Qv
      have Qv := Qv'
      clear Qv'
      have Qd' := Lib.hid (Qd.out.below hb Qd.out.lt)
      clear Qd
      have Qd := Qd'
      clear Qd'
      have X' := Lib.hid (X.out.below hb)
      clear X
      have X := X'
      clear X'
      have HB' := Lib.hid (HB.out.trans (hb.mono HB.out.size))
      clear HB
      have HB := HB'
      clear HB'
      clear hb
      obtain ⟨Af, cf, rfl, -⟩ := hNf.form
      generalize hfl : (dg (N1 / (D1 : Int)).natAbs).length = lf at *
      clear hfl hlf hsf
      have NF := Lib.hid hNf
      clear hNf
      have zX0 := X.out.c0
      have zX1 := X.out.c1
      have zX2 := X.out.c2
      have zX3 := X.out.c3
      have zX4 := X.out.c4
      have zX5 := X.out.c5
      have zX6 := X.out.c6
      have zQs0 := Qs.out.c0
      have zQs1 := Qs.out.c1
      have zQs2 := Qs.out.c2
      have zQa0 := Qa.out.c0
      have zQa1 := Qa.out.c1
      have zQa2 := Qa.out.c2
      have zQp0 := Qp.out.c0
      have zQp1 := Qp.out.c1
      have zQp2 := Qp.out.c2
      have zQu0 := Qu.out.c0
      have zQu1 := Qu.out.c1
      have zQu2 := Qu.out.c2
      have zQq0 := Qq.out.c0
      have zQq1 := Qq.out.c1
      have zQq2 := Qq.out.c2
      have zQr0 := Qr.out.c0
      have zQr1 := Qr.out.c1
      have zQr2 := Qr.out.c2
      have zQv0 := Qv.out.c0
      have zQv1 := Qv.out.c1
      have zQv2 := Qv.out.c2
      have zQd0 := Qd.out.c0
      have zQd1 := Qd.out.c1
      have zQd2 := Qd.out.c2
      go_wp2_with fail
      have ho := one_new w16
      have hb := al_below w16 (.cells #[.int .u32 1] 64)
      have NF' := Lib.hid (NF.out.up hb)
      clear NF
      have NF := NF'
      clear NF'
      clear zX0 zX1 zX2 zX3 zX4 zX5 zX6 zQs0 zQs1 zQs2 zQa0 zQa1 zQa2 zQp0 zQp1 zQp2 zQu0 zQu1 zQu2 zQq0 zQq1 zQq2 zQr0 zQr1 zQr2 zQv0 zQv1 zQv2 zQd0 zQd1 zQd2
      have F1' := Lib.hid (F1.out.up hb)
      clear F1
      have F1 := F1'
      clear F1'
      have F2' := Lib.hid (F2.out.up hb)
      clear F2
      have F2 := F2'
      clear F2'
      have Fs' := Lib.hid (Fs.out.up hb)
      clear Fs
      have Fs := Fs'
      clear Fs'
      have Fa' := Lib.hid (Fa.out.up hb)
      clear Fa
      have Fa := Fa'
      clear Fa'
      have Fp' := Lib.hid (Fp.out.up hb)
      clear Fp
      have Fp := Fp'
      clear Fp'
      have Fu' := Lib.hid (Fu.out.up hb)
      clear Fu
      have Fu := Fu'
      clear Fu'
      have Fq' := Lib.hid (Fq.out.up hb)
      clear Fq
      have Fq := Fq'
      clear Fq'
      have Fr' := Lib.hid (Fr.out.up hb)
      clear Fr
      have Fr := Fr'
      clear Fr'
      have Fv' := Lib.hid (Fv.out.up hb)
      clear Fv
      have Fv := Fv'
      clear Fv'
      have Qs' := Lib.hid (Qs.out.below hb Qs.out.lt)
      clear Qs
      have Qs := Qs'
      clear Qs'
      have Qa' := Lib.hid (Qa.out.below hb Qa.out.lt)
      clear Qa
      have Qa := Qa'
      clear Qa'
      have Qp' := Lib.hid (Qp.out.below hb Qp.out.lt)
      clear Qp
      have Qp := Qp'
      clear Qp'
      have Qu' := Lib.hid (Qu.out.below hb Qu.out.lt)
      clear Qu
      have Qu := Qu'
      clear Qu'
      have Qq' := Lib.hid (Qq.out.below hb Qq.out.lt)
      clear Qq
      have Qq := Qq'
      clear Qq'
      have Qr' := Lib.hid (Qr.out.below hb Qr.out.lt)
      clear Qr
      have Qr := Qr'
      clear Qr'
      have Qv' := Lib.hid (Qv.out.below hb Qv.out.lt)
      clear Qv
      have Qv := Qv'
      clear Qv'
      have Qd' := Lib.hid (Qd.out.below hb Qd.out.lt)
      clear Qd
      have Qd := Qd'
      clear Qd'
      have X' := Lib.hid (X.out.below hb)
      clear X
      have X := X'
      clear X'
      have HB' := Lib.hid (HB.out.trans (hb.mono HB.out.size))
      clear HB
      have HB := HB'
      clear HB'
      clear hb
      have FF := Lib.hid (floor_fq F1.out.sg E1.out NF.out (show Num (w16.alloc (.cells #[.int .u32 1] 64)) (w16.alloc (.cells #[.int .u32 1] 64)).heap.size _ 1 by rw [World.size_alloc]; exact ho) F1.out.ln)
      clear ho NF
      refine (pfsub F1.out FF.out (by omega)).mono ?_
      rintro e w17 ⟨sx, Ax, lx, cx, Bx, mx, dx, Nx, Dx, he, hFx, hPx, hb⟩
      subst he
      have F1' := Lib.hid (F1.out.up hb)
      clear F1
      have F1 := F1'
      clear F1'
      have F2' := Lib.hid (F2.out.up hb)
      clear F2
      have F2 := F2'
      clear F2'
      have Fs' := Lib.hid (Fs.out.up hb)
      clear Fs
      have Fs := Fs'
      clear Fs'
      have Fa' := Lib.hid (Fa.out.up hb)
      clear Fa
      have Fa := Fa'
      clear Fa'
      have Fp' := Lib.hid (Fp.out.up hb)
      clear Fp
      have Fp := Fp'
      clear Fp'
      have Fu' := Lib.hid (Fu.out.up hb)
      clear Fu
      have Fu := Fu'
      clear Fu'
      have Fq' := Lib.hid (Fq.out.up hb)
      clear Fq
      have Fq := Fq'
      clear Fq'
      have Fr' := Lib.hid (Fr.out.up hb)
      clear Fr
      have Fr := Fr'
      clear Fr'
      have Fv' := Lib.hid (Fv.out.up hb)
      clear Fv
      have Fv := Fv'
      clear Fv'
      have Qs' := Lib.hid (Qs.out.below hb Qs.out.lt)
      clear Qs
      have Qs := Qs'
      clear Qs'
      have Qa' := Lib.hid (Qa.out.below hb Qa.out.lt)
      clear Qa
      have Qa := Qa'
      clear Qa'
      have Qp' := Lib.hid (Qp.out.below hb Qp.out.lt)
      clear Qp
      have Qp := Qp'
      clear Qp'
      have Qu' := Lib.hid (Qu.out.below hb Qu.out.lt)
      clear Qu
      have Qu := Qu'
      clear Qu'
      have Qq' := Lib.hid (Qq.out.below hb Qq.out.lt)
      clear Qq
      have Qq := Qq'
      clear Qq'
      have Qr' := Lib.hid (Qr.out.below hb Qr.out.lt)
      clear Qr
      have Qr := Qr'
      clear Qr'
      have Qv' := Lib.hid (Qv.out.below hb Qv.out.lt)
      clear Qv
      have Qv := Qv'
      clear Qv'
      have Qd' := Lib.hid (Qd.out.below hb Qd.out.lt)
      clear Qd
      have Qd := Qd'
      clear Qd'
      have X' := Lib.hid (X.out.below hb)
      clear X
      have X := X'
      clear X'
      have HB' := Lib.hid (HB.out.trans (hb.mono HB.out.size))
      clear HB
      have HB := HB'
      clear HB'
      clear hb
      clear FF
      have hsm := rest_small E1.out hFx.ne hPx
      have hsx : sx = false := by rw [hFx.sg]; exact decide_eq_false (by have := hsm.1; omega)
      subst hsx
      have Fx := Lib.hid hFx
      have CX := Lib.hid (show cmp3 (Nx * ((1 : Nat) : Int)) (((1 : Nat) : Int) * (Dx : Int)) = -1 by unfold cmp3; rw [if_pos hsm.2])
      clear hFx hPx hsm
      have neQsQx := Lib.hid (Nat.ne_of_lt Qs.out.lt)
      have neQaQx := Lib.hid (Nat.ne_of_lt Qa.out.lt)
      have neQpQx := Lib.hid (Nat.ne_of_lt Qp.out.lt)
      have neQuQx := Lib.hid (Nat.ne_of_lt Qu.out.lt)
      have neQqQx := Lib.hid (Nat.ne_of_lt Qq.out.lt)
      have neQrQx := Lib.hid (Nat.ne_of_lt Qr.out.lt)
      have neQvQx := Lib.hid (Nat.ne_of_lt Qv.out.lt)
      have neQdQx := Lib.hid (Nat.ne_of_lt Qd.out.lt)
      have neXQx := Lib.hid (Nat.ne_of_lt X.out.lt)
      have geQx := Lib.hid HB.out.size
      have hb := al_below w17 (.cells #[.bool false, (.slice Ax lx cx), (.slice Bx mx dx)] 48)
      have F1' := Lib.hid (F1.out.up hb)
      clear F1
      have F1 := F1'
      clear F1'
      have F2' := Lib.hid (F2.out.up hb)
      clear F2
      have F2 := F2'
      clear F2'
      have Fs' := Lib.hid (Fs.out.up hb)
      clear Fs
      have Fs := Fs'
      clear Fs'
      have Fa' := Lib.hid (Fa.out.up hb)
      clear Fa
      have Fa := Fa'
      clear Fa'
      have Fp' := Lib.hid (Fp.out.up hb)
      clear Fp
      have Fp := Fp'
      clear Fp'
      have Fu' := Lib.hid (Fu.out.up hb)
      clear Fu
      have Fu := Fu'
      clear Fu'
      have Fq' := Lib.hid (Fq.out.up hb)
      clear Fq
      have Fq := Fq'
      clear Fq'
      have Fr' := Lib.hid (Fr.out.up hb)
      clear Fr
      have Fr := Fr'
      clear Fr'
      have Fv' := Lib.hid (Fv.out.up hb)
      clear Fv
      have Fv := Fv'
      clear Fv'
      have Fx' := Lib.hid (Fx.out.up hb)
      clear Fx
      have Fx := Fx'
      clear Fx'
      have Qs' := Lib.hid (Qs.out.below hb Qs.out.lt)
      clear Qs
      have Qs := Qs'
      clear Qs'
      have Qa' := Lib.hid (Qa.out.below hb Qa.out.lt)
      clear Qa
      have Qa := Qa'
      clear Qa'
      have Qp' := Lib.hid (Qp.out.below hb Qp.out.lt)
      clear Qp
      have Qp := Qp'
      clear Qp'
      have Qu' := Lib.hid (Qu.out.below hb Qu.out.lt)
      clear Qu
      have Qu := Qu'
      clear Qu'
      have Qq' := Lib.hid (Qq.out.below hb Qq.out.lt)
      clear Qq
      have Qq := Qq'
      clear Qq'
      have Qr' := Lib.hid (Qr.out.below hb Qr.out.lt)
      clear Qr
      have Qr := Qr'
      clear Qr'
      have Qv' := Lib.hid (Qv.out.below hb Qv.out.lt)
      clear Qv
      have Qv := Qv'
      clear Qv'
      have Qd' := Lib.hid (Qd.out.below hb Qd.out.lt)
      clear Qd
      have Qd := Qd'
      clear Qd'
      have X' := Lib.hid (X.out.below hb)
      clear X
      have X := X'
      clear X'
      have HB' := Lib.hid (HB.out.trans (hb.mono HB.out.size))
      clear HB
      have HB := HB'
      clear HB'
      clear hb
      have Qx := Lib.hid (QB.new w17 false (.slice Ax lx cx) (.slice Bx mx dx))
      have zX0 := X.out.c0
      have zX1 := X.out.c1
      have zX2 := X.out.c2
      have zX3 := X.out.c3
      have zX4 := X.out.c4
      have zX5 := X.out.c5
      have zX6 := X.out.c6
      have zQs0 := Qs.out.c0
      have zQs1 := Qs.out.c1
      have zQs2 := Qs.out.c2
      have zQa0 := Qa.out.c0
      have zQa1 := Qa.out.c1
      have zQa2 := Qa.out.c2
      have zQp0 := Qp.out.c0
      have zQp1 := Qp.out.c1
      have zQp2 := Qp.out.c2
      have zQu0 := Qu.out.c0
      have zQu1 := Qu.out.c1
      have zQu2 := Qu.out.c2
      have zQq0 := Qq.out.c0
      have zQq1 := Qq.out.c1
      have zQq2 := Qq.out.c2
      have zQr0 := Qr.out.c0
      have zQr1 := Qr.out.c1
      have zQr2 := Qr.out.c2
      have zQv0 := Qv.out.c0
      have zQv1 := Qv.out.c1
      have zQv2 := Qv.out.c2
      have zQd0 := Qd.out.c0
      have zQd1 := Qd.out.c1
      have zQd2 := Qd.out.c2
      have zQx0 := Qx.out.c0
      have zQx1 := Qx.out.c1
      have zQx2 := Qx.out.c2
      go_wp2_with fail
      generalize w17.alloc (.cells #[.bool false, (.slice Ax lx cx), (.slice Bx mx dx)] 48) = wQx at *
      generalize w17.heap.size = gQx at *
      clear zX0 zX1 zX2 zX3 zX4 zX5 zX6 zQs0 zQs1 zQs2 zQa0 zQa1 zQa2 zQp0 zQp1 zQp2 zQu0 zQu1 zQu2 zQq0 zQq1 zQq2 zQr0 zQr1 zQr2 zQv0 zQv1 zQv2 zQd0 zQd1 zQd2 zQx0 zQx1 zQx2
      clear Qs
      clear Qa
      clear Qp
      clear Qu
      clear Qq
      clear Qr
      clear Qv
      clear Qd
      clear F1
      clear F2
      clear Fs
      clear Fa
      clear Fp
      clear Fu
      clear Fq
      clear Fr
      clear Fv
      have HBd := Lib.hid HB.out.drew
      clear HB
      have HB := HBd
      clear HBd
      have Qx' := Lib.hid (show QB wQx.drew _ _ _ _ from Qx.out)
      clear Qx
      have Qx := Qx'
      clear Qx'
      have Fx' := Lib.hid (Fx.out.up (Below.refl _ _).drew)
      clear Fx
      have Fx := Fx'
      clear Fx'
      have zz0 := Qx.out.c0
      have zy0 : wQx.cell? ⟨gQx, 0, none⟩ = _ := Qx.out.c0
      have zz1 := Qx.out.c1
      have zy1 : wQx.cell? ⟨gQx, 1, none⟩ = _ := Qx.out.c1
      have zz2 := Qx.out.c2
      have zy2 : wQx.cell? ⟨gQx, 2, none⟩ = _ := Qx.out.c2
      refine wp_region_noPanic ?_
      refine wp_region_held_drew (S := (fun w' => w'.cell? ⟨gQx, 0, none⟩ = some (.bool false) ∧ w'.cell? ⟨gQx, 1, none⟩ = some (.slice Ax lx cx) ∧ w'.cell? ⟨gQx, 2, none⟩ = some (.slice Bx mx dx))) (by kernel_rfl) (by refine ⟨?_, ?_, ?_⟩ <;> first | with_reducible assumption | go_keep) (fun hHeld => ?_)
      refine wpAnyH_take (i := 0) (oi := ⟨some 210, _, _, _, _, _⟩) (v := ?_) rfl (by kernel_rfl) (by kernel_rfl) (by kernel_rfl) (fun _ _ _ h => h) (Or.inl ⟨by rfl, ?_⟩) (by assumption) ?_
      rotate_left
      · (intro w hSw; (try dsimp only at hSw); go_simp; (try (with_reducible rfl)))
      (try simp only [Act.put, List.setIfInBounds_toArray, List.set_cons_zero, List.set_cons_succ])
      refine wpAnyH_ready (rs := [1]) (by kernel_rfl) (by simp) (AllReadyH.cons (o := ⟨some 211, _, _, _, _, _⟩) rfl (fun K hK => ?_) AllReadyH.nil)
      rw [if_pos (by rfl)]
      go_simp
      go_at_call 69
      refine Calls.mono (aw_quo false 1 1 (by omega) (by omega) (by omega) (by omega) _) ?_
      rintro e x1 ⟨A9, l9, c9, B9, m9, d9, he, hn9, hd9, hb⟩
      subst he
      have Fx' := Lib.hid (Fx.out.up hb)
      clear Fx
      have Fx := Fx'
      clear Fx'
      have Qx' := Lib.hid (Qx.out.below hb Qx.out.lt)
      clear Qx
      have Qx := Qx'
      clear Qx'
      have HB' := Lib.hid (HB.out.trans (hb.mono HB.out.size))
      clear HB
      have HB := HB'
      clear HB'
      clear hb
      have F9 := Lib.hid (one_fq hn9 hd9)
      clear hn9 hd9
      have q10 := Qx.out.c0
      have q11 := Qx.out.c1
      have q12 := Qx.out.c2
      (try go_wp2_with fail)
      refine hK.out _ _ (by (try dsimp only); refine ⟨?_, ?_, ?_⟩ <;> first | with_reducible assumption | go_keep) (fun hHeld => ?_)
      clear hK K
      (try simp only [Act.put, List.setIfInBounds_toArray, List.set_cons_zero, List.set_cons_succ])
      refine wpAnyH_ready (rs := [2]) (by kernel_rfl) (by simp) (AllReadyH.cons (o := ⟨some 212, _, _, _, _, _⟩) rfl (fun K hK => ?_) AllReadyH.nil)
      rw [if_pos (by rfl)]
      go_simp
      go_at_call 58
      refine Calls.mono (CX.out ▸ pfcmp Fx.out F9.out (by omega) : Calls _ _ _ _ (fun e w' => e = .returned (.tuple #[.int .i64 (-1), .int .i64 0]) ∧ Below _ _ w')) ?_
      rintro e x2 ⟨he, hb⟩
      subst he
      clear F9
      have Fx' := Lib.hid (Fx.out.up hb)
      clear Fx
      have Fx := Fx'
      clear Fx'
      have Qx' := Lib.hid (Qx.out.below hb Qx.out.lt)
      clear Qx
      have Qx := Qx'
      clear Qx'
      have HB' := Lib.hid (HB.out.trans (hb.mono HB.out.size))
      clear HB
      have HB := HB'
      clear HB'
      clear hb
      have q20 := Qx.out.c0
      have q21 := Qx.out.c1
      have q22 := Qx.out.c2
      (try go_wp2_with fail)
      refine hK.out _ _ (by (try dsimp only); refine ⟨?_, ?_, ?_⟩ <;> first | with_reducible assumption | go_keep) (fun hHeld => ?_)
      clear hK K
      (try simp only [Act.put, List.setIfInBounds_toArray, List.set_cons_zero, List.set_cons_succ])
      refine wpAnyH_take (i := 3) (oi := ⟨some 209, _, _, _, _, _⟩) (v := ?_) rfl (by kernel_rfl) (by kernel_rfl) (by kernel_rfl) (fun _ _ _ h => h) (Or.inl ⟨by rfl, ?_⟩) (by assumption) ?_
      rotate_left
      · (intro w hSw; (try dsimp only at hSw); go_simp; (try (with_reducible rfl)))
      (try simp only [Act.put, List.setIfInBounds_toArray, List.set_cons_zero, List.set_cons_succ])
      refine wpAnyH_take (i := 4) (oi := ⟨some 213, _, _, _, _, _⟩) (v := ?_) rfl (by kernel_rfl) (by kernel_rfl) (by kernel_rfl) (fun _ _ _ h => h) (Or.inl ⟨by rfl, ?_⟩) (by assumption) ?_
      rotate_left
      · (intro w hSw; (try dsimp only at hSw); go_simp; (try (with_reducible rfl)))
      (try simp only [Act.put, List.setIfInBounds_toArray, List.set_cons_zero, List.set_cons_succ])
      refine wpAnyH_take (i := 5) (oi := ⟨some 214, _, _, _, _, _⟩) (v := ?_) rfl (by kernel_rfl) (by kernel_rfl) (by kernel_rfl) (fun _ _ _ h => h) (Or.inl ⟨by rfl, ?_⟩) (by assumption) ?_
      rotate_left
      · (intro w hSw; (try dsimp only at hSw); go_simp; (try (with_reducible rfl)))
      (try simp only [Act.put, List.setIfInBounds_toArray, List.set_cons_zero, List.set_cons_succ])
      refine wpAnyH_take (i := 6) (oi := ⟨some 22, _, _, _, _, _⟩) (v := ?_) rfl (by kernel_rfl) (by kernel_rfl) (by kernel_rfl) (fun _ _ _ h => h) (Or.inl ⟨by rfl, ?_⟩) (by assumption) ?_
      rotate_left
      · (intro w hSw; (try dsimp only at hSw); go_simp; (try (with_reducible rfl)))
      (try simp only [Act.put, List.setIfInBounds_toArray, List.set_cons_zero, List.set_cons_succ])
      refine wpAnyH_take (i := 7) (oi := ⟨some 12, _, _, _, _, _⟩) (v := ?_) rfl (by kernel_rfl) (by kernel_rfl) (by kernel_rfl) (fun _ _ _ h => h) (Or.inl ⟨by rfl, ?_⟩) (by assumption) ?_
      rotate_left
      · (intro w hSw; (try dsimp only at hSw); go_simp; (try (with_reducible rfl)))
      (try simp only [Act.put, List.setIfInBounds_toArray, List.set_cons_zero, List.set_cons_succ])
      refine wpAnyH_done (by kernel_rfl) ?_ _
      refine NoPanic.normal ?_
      go_wp2_with fail
      refine (awake_any _ (HT.out.below HB.out)).mono ?_
      rintro e x3 ⟨he, hb⟩
      subst he
      go_wp2_with fail
      go_ret
      exact ⟨rfl, HB.out.trans (hb.mono HB.out.size)⟩
    · have zX0 := X.out.c0
      have zX1 := X.out.c1
      have zX2 := X.out.c2
      have zX3 := X.out.c3
      have zX4 := X.out.c4
      have zX5 := X.out.c5
      have zX6 := X.out.c6
      have zQs0 := Qs.out.c0
      have zQs1 := Qs.out.c1
      have zQs2 := Qs.out.c2
      have zQa0 := Qa.out.c0
      have zQa1 := Qa.out.c1
      have zQa2 := Qa.out.c2
      have zQp0 := Qp.out.c0
      have zQp1 := Qp.out.c1
      have zQp2 := Qp.out.c2
      have zQu0 := Qu.out.c0
      have zQu1 := Qu.out.c1
      have zQu2 := Qu.out.c2
      have zQq0 := Qq.out.c0
      have zQq1 := Qq.out.c1
      have zQq2 := Qq.out.c2
      have zQr0 := Qr.out.c0
      have zQr1 := Qr.out.c1
      have zQr2 := Qr.out.c2
      have zQv0 := Qv.out.c0
      have zQv1 := Qv.out.c1
      have zQv2 := Qv.out.c2
      have zQd0 := Qd.out.c0
      have zQd1 := Qd.out.c1
      have zQd2 := Qd.out.c2
      go_wp2_with fail
      refine (pffloor F1.out (by omega)).mono ?_
      rintro e w16 ⟨vf, he, hNf, hlf, hsf, hb⟩
      subst he
      clear zX0 zX1 zX2 zX3 zX4 zX5 zX6 zQs0 zQs1 zQs2 zQa0 zQa1 zQa2 zQp0 zQp1 zQp2 zQu0 zQu1 zQu2 zQq0 zQq1 zQq2 zQr0 zQr1 zQr2 zQv0 zQv1 zQv2 zQd0 zQd1 zQd2
      have F1' := Lib.hid (F1.out.up hb)
      clear F1
      have F1 := F1'
      clear F1'
      have F2' := Lib.hid (F2.out.up hb)
      clear F2
      have F2 := F2'
      clear F2'
      have Fs' := Lib.hid (Fs.out.up hb)
      clear Fs
      have Fs := Fs'
      clear Fs'
      have Fa' := Lib.hid (Fa.out.up hb)
      clear Fa
      have Fa := Fa'
      clear Fa'
      have Fp' := Lib.hid (Fp.out.up hb)
      clear Fp
      have Fp := Fp'
      clear Fp'
      have Fu' := Lib.hid (Fu.out.up hb)
      clear Fu
      have Fu := Fu'
      clear Fu'
      have Fq' := Lib.hid (Fq.out.up hb)
      clear Fq
      have Fq := Fq'
      clear Fq'
      have Fr' := Lib.hid (Fr.out.up hb)
      clear Fr
      have Fr := Fr'
      clear Fr'
      have Fv' := Lib.hid (Fv.out.up hb)
      clear Fv
      have Fv := Fv'
      clear Fv'
      have Qs' := Lib.hid (Qs.out.below hb Qs.out.lt)
      clear Qs
      have Qs := Qs'
      clear Qs'
      have Qa' := Lib.hid (Qa.out.below hb Qa.out.lt)
      clear Qa
      have Qa := Qa'
      clear Qa'
      have Qp' := Lib.hid (Qp.out.below hb Qp.out.lt)
      clear Qp
      have Qp := Qp'
      clear Qp'
      have Qu' := Lib.hid (Qu.out.below hb Qu.out.lt)
      clear Qu
      have Qu := Qu'
      clear Qu'
      have Qq' := Lib.hid (Qq.out.below hb Qq.out.lt)
      clear Qq
      have Qq := Qq'
      clear Qq'
      have Qr' := Lib.hid (Qr.out.below hb Qr.out.lt)
      clear Qr
      have Qr := Qr'
      clear Qr'
      have Qv' := Lib.hid (Qv.out.below hb Qv.out.lt)
      clear Qv
      have Qv := Qv'
      clear Qv'
      have Qd' := Lib.hid (Qd.out.below hb Qd.out.lt)
      clear Qd
      have Qd := Qd'
      clear Qd'
      have X' := Lib.hid (X.out.below hb)
      clear X
      have X := X'
      clear X'
      have HB' := Lib.hid (HB.out.trans (hb.mono HB.out.size))
      clear HB
      have HB := HB'
      clear HB'
      clear hb
      obtain ⟨Af, cf, rfl, -⟩ := hNf.form
      generalize hfl : (dg (N1 / (D1 : Int)).natAbs).length = lf at *
      clear hfl hlf hsf
      have NF := Lib.hid hNf
      clear hNf
      have zX0 := X.out.c0
      have zX1 := X.out.c1
      have zX2 := X.out.c2
      have zX3 := X.out.c3
      have zX4 := X.out.c4
      have zX5 := X.out.c5
      have zX6 := X.out.c6
      have zQs0 := Qs.out.c0
      have zQs1 := Qs.out.c1
      have zQs2 := Qs.out.c2
      have zQa0 := Qa.out.c0
      have zQa1 := Qa.out.c1
      have zQa2 := Qa.out.c2
      have zQp0 := Qp.out.c0
      have zQp1 := Qp.out.c1
      have zQp2 := Qp.out.c2
      have zQu0 := Qu.out.c0
      have zQu1 := Qu.out.c1
      have zQu2 := Qu.out.c2
      have zQq0 := Qq.out.c0
      have zQq1 := Qq.out.c1
      have zQq2 := Qq.out.c2
      have zQr0 := Qr.out.c0
      have zQr1 := Qr.out.c1
      have zQr2 := Qr.out.c2
      have zQv0 := Qv.out.c0
      have zQv1 := Qv.out.c1
      have zQv2 := Qv.out.c2
      have zQd0 := Qd.out.c0
      have zQd1 := Qd.out.c1
      have zQd2 := Qd.out.c2
      go_wp2_with fail
      have ho := one_new w16
      have hb := al_below w16 (.cells #[.int .u32 1] 64)
      have NF' := Lib.hid (NF.out.up hb)
      clear NF
      have NF := NF'
      clear NF'
      clear zX0 zX1 zX2 zX3 zX4 zX5 zX6 zQs0 zQs1 zQs2 zQa0 zQa1 zQa2 zQp0 zQp1 zQp2 zQu0 zQu1 zQu2 zQq0 zQq1 zQq2 zQr0 zQr1 zQr2 zQv0 zQv1 zQv2 zQd0 zQd1 zQd2
      have F1' := Lib.hid (F1.out.up hb)
      clear F1
      have F1 := F1'
      clear F1'
      have F2' := Lib.hid (F2.out.up hb)
      clear F2
      have F2 := F2'
      clear F2'
      have Fs' := Lib.hid (Fs.out.up hb)
      clear Fs
      have Fs := Fs'
      clear Fs'
      have Fa' := Lib.hid (Fa.out.up hb)
      clear Fa
      have Fa := Fa'
      clear Fa'
      have Fp' := Lib.hid (Fp.out.up hb)
      clear Fp
      have Fp := Fp'
      clear Fp'
      have Fu' := Lib.hid (Fu.out.up hb)
      clear Fu
      have Fu := Fu'
      clear Fu'
      have Fq' := Lib.hid (Fq.out.up hb)
      clear Fq
      have Fq := Fq'
      clear Fq'
      have Fr' := Lib.hid (Fr.out.up hb)
      clear Fr
      have Fr := Fr'
      clear Fr'
      have Fv' := Lib.hid (Fv.out.up hb)
      clear Fv
      have Fv := Fv'
      clear Fv'
      have Qs' := Lib.hid (Qs.out.below hb Qs.out.lt)
      clear Qs
      have Qs := Qs'
      clear Qs'
      have Qa' := Lib.hid (Qa.out.below hb Qa.out.lt)
      clear Qa
      have Qa := Qa'
      clear Qa'
      have Qp' := Lib.hid (Qp.out.below hb Qp.out.lt)
      clear Qp
      have Qp := Qp'
      clear Qp'
      have Qu' := Lib.hid (Qu.out.below hb Qu.out.lt)
      clear Qu
      have Qu := Qu'
      clear Qu'
      have Qq' := Lib.hid (Qq.out.below hb Qq.out.lt)
      clear Qq
      have Qq := Qq'
      clear Qq'
      have Qr' := Lib.hid (Qr.out.below hb Qr.out.lt)
      clear Qr
      have Qr := Qr'
      clear Qr'
      have Qv' := Lib.hid (Qv.out.below hb Qv.out.lt)
      clear Qv
      have Qv := Qv'
      clear Qv'
      have Qd' := Lib.hid (Qd.out.below hb Qd.out.lt)
      clear Qd
      have Qd := Qd'
      clear Qd'
      have X' := Lib.hid (X.out.below hb)
      clear X
      have X := X'
      clear X'
      have HB' := Lib.hid (HB.out.trans (hb.mono HB.out.size))
      clear HB
      have HB := HB'
      clear HB'
      clear hb
      have FF := Lib.hid (floor_fq F1.out.sg E1.out NF.out (show Num (w16.alloc (.cells #[.int .u32 1] 64)) (w16.alloc (.cells #[.int .u32 1] 64)).heap.size _ 1 by rw [World.size_alloc]; exact ho) F1.out.ln)
      clear ho NF
      refine (pfsub F1.out FF.out (by omega)).mono ?_
      rintro e w17 ⟨sx, Ax, lx, cx, Bx, mx, dx, Nx, Dx, he, hFx, hPx, hb⟩
      subst he
      have F1' := Lib.hid (F1.out.up hb)
      clear F1
      have F1 := F1'
      clear F1'
      have F2' := Lib.hid (F2.out.up hb)
      clear F2
      have F2 := F2'
      clear F2'
      have Fs' := Lib.hid (Fs.out.up hb)
      clear Fs
      have Fs := Fs'
      clear Fs'
      have Fa' := Lib.hid (Fa.out.up hb)
      clear Fa
      have Fa := Fa'
      clear Fa'
      have Fp' := Lib.hid (Fp.out.up hb)
      clear Fp
      have Fp := Fp'
      clear Fp'
      have Fu' := Lib.hid (Fu.out.up hb)
      clear Fu
      have Fu := Fu'
      clear Fu'
      have Fq' := Lib.hid (Fq.out.up hb)
      clear Fq
      have Fq := Fq'
      clear Fq'
      have Fr' := Lib.hid (Fr.out.up hb)
      clear Fr
      have Fr := Fr'
      clear Fr'
      have Fv' := Lib.hid (Fv.out.up hb)
      clear Fv
      have Fv := Fv'
      clear Fv'
      have Qs' := Lib.hid (Qs.out.below hb Qs.out.lt)
      clear Qs
      have Qs := Qs'
      clear Qs'
      have Qa' := Lib.hid (Qa.out.below hb Qa.out.lt)
      clear Qa
      have Qa := Qa'
      clear Qa'
      have Qp' := Lib.hid (Qp.out.below hb Qp.out.lt)
      clear Qp
      have Qp := Qp'
      clear Qp'
      have Qu' := Lib.hid (Qu.out.below hb Qu.out.lt)
      clear Qu
      have Qu := Qu'
      clear Qu'
      have Qq' := Lib.hid (Qq.out.below hb Qq.out.lt)
      clear Qq
      have Qq := Qq'
      clear Qq'
      have Qr' := Lib.hid (Qr.out.below hb Qr.out.lt)
      clear Qr
      have Qr := Qr'
      clear Qr'
      have Qv' := Lib.hid (Qv.out.below hb Qv.out.lt)
      clear Qv
      have Qv := Qv'
      clear Qv'
      have Qd' := Lib.hid (Qd.out.below hb Qd.out.lt)
      clear Qd
      have Qd := Qd'
      clear Qd'
      have X' := Lib.hid (X.out.below hb)
      clear X
      have X := X'
      clear X'
      have HB' := Lib.hid (HB.out.trans (hb.mono HB.out.size))
      clear HB
      have HB := HB'
      clear HB'
      clear hb
      clear FF
      have hsm := rest_small E1.out hFx.ne hPx
      have hsx : sx = false := by rw [hFx.sg]; exact decide_eq_false (by have := hsm.1; omega)
      subst hsx
      have Fx := Lib.hid hFx
      have CX := Lib.hid (show cmp3 (Nx * ((1 : Nat) : Int)) (((1 : Nat) : Int) * (Dx : Int)) = -1 by unfold cmp3; rw [if_pos hsm.2])
      clear hFx hPx hsm
      have neQsQx := Lib.hid (Nat.ne_of_lt Qs.out.lt)
      have neQaQx := Lib.hid (Nat.ne_of_lt Qa.out.lt)
      have neQpQx := Lib.hid (Nat.ne_of_lt Qp.out.lt)
      have neQuQx := Lib.hid (Nat.ne_of_lt Qu.out.lt)
      have neQqQx := Lib.hid (Nat.ne_of_lt Qq.out.lt)
      have neQrQx := Lib.hid (Nat.ne_of_lt Qr.out.lt)
      have neQvQx := Lib.hid (Nat.ne_of_lt Qv.out.lt)
      have neQdQx := Lib.hid (Nat.ne_of_lt Qd.out.lt)
      have neXQx := Lib.hid (Nat.ne_of_lt X.out.lt)
      have geQx := Lib.hid HB.out.size
      have hb := al_below w17 (.cells #[.bool false, (.slice Ax lx cx), (.slice Bx mx dx)] 48)
      have F1' := Lib.hid (F1.out.up hb)
      clear F1
      have F1 := F1'
      clear F1'
      have F2' := Lib.hid (F2.out.up hb)
      clear F2
      have F2 := F2'
      clear F2'
      have Fs' := Lib.hid (Fs.out.up hb)
      clear Fs
      have Fs := Fs'
      clear Fs'
      have Fa' := Lib.hid (Fa.out.up hb)
      clear Fa
      have Fa := Fa'
      clear Fa'
      have Fp' := Lib.hid (Fp.out.up hb)
      clear Fp
      have Fp := Fp'
      clear Fp'
      have Fu' := Lib.hid (Fu.out.up hb)
      clear Fu
      have Fu := Fu'
      clear Fu'
      have Fq' := Lib.hid (Fq.out.up hb)
      clear Fq
      have Fq := Fq'
      clear Fq'
      have Fr' := Lib.hid (Fr.out.up hb)
      clear Fr
      have Fr := Fr'
      clear Fr'
      have Fv' := Lib.hid (Fv.out.up hb)
      clear Fv
      have Fv := Fv'
      clear Fv'
      have Fx' := Lib.hid (Fx.out.up hb)
      clear Fx
      have Fx := Fx'
      clear Fx'
      have Qs' := Lib.hid (Qs.out.below hb Qs.out.lt)
      clear Qs
      have Qs := Qs'
      clear Qs'
      have Qa' := Lib.hid (Qa.out.below hb Qa.out.lt)
      clear Qa
      have Qa := Qa'
      clear Qa'
      have Qp' := Lib.hid (Qp.out.below hb Qp.out.lt)
      clear Qp
      have Qp := Qp'
      clear Qp'
      have Qu' := Lib.hid (Qu.out.below hb Qu.out.lt)
      clear Qu
      have Qu := Qu'
      clear Qu'
      have Qq' := Lib.hid (Qq.out.below hb Qq.out.lt)
      clear Qq
      have Qq := Qq'
      clear Qq'
      have Qr' := Lib.hid (Qr.out.below hb Qr.out.lt)
      clear Qr
      have Qr := Qr'
      clear Qr'
      have Qv' := Lib.hid (Qv.out.below hb Qv.out.lt)
      clear Qv
      have Qv := Qv'
      clear Qv'
      have Qd' := Lib.hid (Qd.out.below hb Qd.out.lt)
      clear Qd
      have Qd := Qd'
      clear Qd'
      have X' := Lib.hid (X.out.below hb)
      clear X
      have X := X'
      clear X'
      have HB' := Lib.hid (HB.out.trans (hb.mono HB.out.size))
      clear HB
      have HB := HB'
      clear HB'
      clear hb
      have Qx := Lib.hid (QB.new w17 false (.slice Ax lx cx) (.slice Bx mx dx))
      have zX0 := X.out.c0
      have zX1 := X.out.c1
      have zX2 := X.out.c2
      have zX3 := X.out.c3
      have zX4 := X.out.c4
      have zX5 := X.out.c5
      have zX6 := X.out.c6
      have zQs0 := Qs.out.c0
      have zQs1 := Qs.out.c1
      have zQs2 := Qs.out.c2
      have zQa0 := Qa.out.c0
      have zQa1 := Qa.out.c1
      have zQa2 := Qa.out.c2
      have zQp0 := Qp.out.c0
      have zQp1 := Qp.out.c1
      have zQp2 := Qp.out.c2
      have zQu0 := Qu.out.c0
      have zQu1 := Qu.out.c1
      have zQu2 := Qu.out.c2
      have zQq0 := Qq.out.c0
      have zQq1 := Qq.out.c1
      have zQq2 := Qq.out.c2
      have zQr0 := Qr.out.c0
      have zQr1 := Qr.out.c1
      have zQr2 := Qr.out.c2
      have zQv0 := Qv.out.c0
      have zQv1 := Qv.out.c1
      have zQv2 := Qv.out.c2
      have zQd0 := Qd.out.c0
      have zQd1 := Qd.out.c1
      have zQd2 := Qd.out.c2
      have zQx0 := Qx.out.c0
      have zQx1 := Qx.out.c1
      have zQx2 := Qx.out.c2
      go_wp2_with fail
      generalize w17.alloc (.cells #[.bool false, (.slice Ax lx cx), (.slice Bx mx dx)] 48) = wQx at *
      generalize w17.heap.size = gQx at *
      clear zX0 zX1 zX2 zX3 zX4 zX5 zX6 zQs0 zQs1 zQs2 zQa0 zQa1 zQa2 zQp0 zQp1 zQp2 zQu0 zQu1 zQu2 zQq0 zQq1 zQq2 zQr0 zQr1 zQr2 zQv0 zQv1 zQv2 zQd0 zQd1 zQd2 zQx0 zQx1 zQx2
      clear Qs
      clear Qa
      clear Qp
      clear Qu
      clear Qq
      clear Qr
      clear Qv
      clear Qd
      clear F1
      clear F2
      clear Fs
      clear Fa
      clear Fp
      clear Fu
      clear Fq
      clear Fr
      clear Fv
      have HBd := Lib.hid HB.out.drew
      clear HB
      have HB := HBd
      clear HBd
      have Qx' := Lib.hid (show QB wQx.drew _ _ _ _ from Qx.out)
      clear Qx
      have Qx := Qx'
      clear Qx'
      have Fx' := Lib.hid (Fx.out.up (Below.refl _ _).drew)
      clear Fx
      have Fx := Fx'
      clear Fx'
      have zz0 := Qx.out.c0
      have zy0 : wQx.cell? ⟨gQx, 0, none⟩ = _ := Qx.out.c0
      have zz1 := Qx.out.c1
      have zy1 : wQx.cell? ⟨gQx, 1, none⟩ = _ := Qx.out.c1
      have zz2 := Qx.out.c2
      have zy2 : wQx.cell? ⟨gQx, 2, none⟩ = _ := Qx.out.c2
      refine wp_region_noPanic ?_
      refine wp_region_held_drew (S := (fun w' => w'.cell? ⟨gQx, 0, none⟩ = some (.bool false) ∧ w'.cell? ⟨gQx, 1, none⟩ = some (.slice Ax lx cx) ∧ w'.cell? ⟨gQx, 2, none⟩ = some (.slice Bx mx dx))) (by kernel_rfl) (by refine ⟨?_, ?_, ?_⟩ <;> first | with_reducible assumption | go_keep) (fun hHeld => ?_)
      refine wpAnyH_take (i := 0) (oi := ⟨some 210, _, _, _, _, _⟩) (v := ?_) rfl (by kernel_rfl) (by kernel_rfl) (by kernel_rfl) (fun _ _ _ h => h) (Or.inl ⟨by rfl, ?_⟩) (by assumption) ?_
      rotate_left
      · (intro w hSw; (try dsimp only at hSw); go_simp; (try (with_reducible rfl)))
      (try simp only [Act.put, List.setIfInBounds_toArray, List.set_cons_zero, List.set_cons_succ])
      refine wpAnyH_ready (rs := [1]) (by kernel_rfl) (by simp) (AllReadyH.cons (o := ⟨some 211, _, _, _, _, _⟩) rfl (fun K hK => ?_) AllReadyH.nil)
      rw [if_pos (by rfl)]
      go_simp
      go_at_call 69
      refine Calls.mono (aw_quo false 1 1 (by omega) (by omega) (by omega) (by omega) _) ?_
      rintro e x1 ⟨A9, l9, c9, B9, m9, d9, he, hn9, hd9, hb⟩
      subst he
      have Fx' := Lib.hid (Fx.out.up hb)
      clear Fx
      have Fx := Fx'
      clear Fx'
      have Qx' := Lib.hid (Qx.out.below hb Qx.out.lt)
      clear Qx
      have Qx := Qx'
      clear Qx'
      have HB' := Lib.hid (HB.out.trans (hb.mono HB.out.size))
      clear HB
      have HB := HB'
      clear HB'
      clear hb
      have F9 := Lib.hid (one_fq hn9 hd9)
      clear hn9 hd9
      have q10 := Qx.out.c0
      have q11 := Qx.out.c1
      have q12 := Qx.out.c2
      (try go_wp2_with fail)
      refine hK.out _ _ (by (try dsimp only); refine ⟨?_, ?_, ?_⟩ <;> first | with_reducible assumption | go_keep) (fun hHeld => ?_)
      clear hK K
      (try simp only [Act.put, List.setIfInBounds_toArray, List.set_cons_zero, List.set_cons_succ])
      refine wpAnyH_ready (rs := [2]) (by kernel_rfl) (by simp) (AllReadyH.cons (o := ⟨some 212, _, _, _, _, _⟩) rfl (fun K hK => ?_) AllReadyH.nil)
      rw [if_pos (by rfl)]
      go_simp
      go_at_call 58
      refine Calls.mono (CX.out ▸ pfcmp Fx.out F9.out (by omega) : Calls _ _ _ _ (fun e w' => e = .returned (.tuple #[.int .i64 (-1), .int .i64 0]) ∧ Below _ _ w')) ?_
      rintro e x2 ⟨he, hb⟩
      subst he
      clear F9
      have Fx' := Lib.hid (Fx.out.up hb)
      clear Fx
      have Fx := Fx'
      clear Fx'
      have Qx' := Lib.hid (Qx.out.below hb Qx.out.lt)
      clear Qx
      have Qx := Qx'
      clear Qx'
      have HB' := Lib.hid (HB.out.trans (hb.mono HB.out.size))
      clear HB
      have HB := HB'
      clear HB'
      clear hb
      have q20 := Qx.out.c0
      have q21 := Qx.out.c1
      have q22 := Qx.out.c2
      (try go_wp2_with fail)
      refine hK.out _ _ (by (try dsimp only); refine ⟨?_, ?_, ?_⟩ <;> first | with_reducible assumption | go_keep) (fun hHeld => ?_)
      clear hK K
      (try simp only [Act.put, List.setIfInBounds_toArray, List.set_cons_zero, List.set_cons_succ])
      refine wpAnyH_take (i := 3) (oi := ⟨some 209, _, _, _, _, _⟩) (v := ?_) rfl (by kernel_rfl) (by kernel_rfl) (by kernel_rfl) (fun _ _ _ h => h) (Or.inl ⟨by rfl, ?_⟩) (by assumption) ?_
      rotate_left
      · (intro w hSw; (try dsimp only at hSw); go_simp; (try (with_reducible rfl)))
      (try simp only [Act.put, List.setIfInBounds_toArray, List.set_cons_zero, List.set_cons_succ])
      refine wpAnyH_take (i := 4) (oi := ⟨some 213, _, _, _, _, _⟩) (v := ?_) rfl (by kernel_rfl) (by kernel_rfl) (by kernel_rfl) (fun _ _ _ h => h) (Or.inl ⟨by rfl, ?_⟩) (by assumption) ?_
      rotate_left
      · (intro w hSw; (try dsimp only at hSw); go_simp; (try (with_reducible rfl)))
      (try simp only [Act.put, List.setIfInBounds_toArray, List.set_cons_zero, List.set_cons_succ])
      refine wpAnyH_take (i := 5) (oi := ⟨some 214, _, _, _, _, _⟩) (v := ?_) rfl (by kernel_rfl) (by kernel_rfl) (by kernel_rfl) (fun _ _ _ h => h) (Or.inl ⟨by rfl, ?_⟩) (by assumption) ?_
      rotate_left
      · (intro w hSw; (try dsimp only at hSw); go_simp; (try (with_reducible rfl)))
      (try simp only [Act.put, List.setIfInBounds_toArray, List.set_cons_zero, List.set_cons_succ])
      refine wpAnyH_take (i := 6) (oi := ⟨some 22, _, _, _, _, _⟩) (v := ?_) rfl (by kernel_rfl) (by kernel_rfl) (by kernel_rfl) (fun _ _ _ h => h) (Or.inl ⟨by rfl, ?_⟩) (by assumption) ?_
      rotate_left
      · (intro w hSw; (try dsimp only at hSw); go_simp; (try (with_reducible rfl)))
      (try simp only [Act.put, List.setIfInBounds_toArray, List.set_cons_zero, List.set_cons_succ])
      refine wpAnyH_take (i := 7) (oi := ⟨some 12, _, _, _, _, _⟩) (v := ?_) rfl (by kernel_rfl) (by kernel_rfl) (by kernel_rfl) (fun _ _ _ h => h) (Or.inl ⟨by rfl, ?_⟩) (by assumption) ?_
      rotate_left
      · (intro w hSw; (try dsimp only at hSw); go_simp; (try (with_reducible rfl)))
      (try simp only [Act.put, List.setIfInBounds_toArray, List.set_cons_zero, List.set_cons_succ])
      refine wpAnyH_done (by kernel_rfl) ?_ _
      refine NoPanic.normal ?_
      go_wp2_with fail
      refine (awake_any _ (HT.out.below HB.out)).mono ?_
      rintro e x3 ⟨he, hb⟩
      subst he
      go_wp2_with fail
      go_ret
      exact ⟨rfl, HB.out.trans (hb.mono HB.out.size)⟩
    · have hlI : ((ld : Int) == 0) = false := beq_eq_false_iff_ne.2 (by omega)
      have hlJ : (ld : Int) ≠ 0 := by omega
      clear hl
      have zX0 := X.out.c0
      have zX1 := X.out.c1
      have zX2 := X.out.c2
      have zX3 := X.out.c3
      have zX4 := X.out.c4
      have zX5 := X.out.c5
      have zX6 := X.out.c6
      have zQs0 := Qs.out.c0
      have zQs1 := Qs.out.c1
      have zQs2 := Qs.out.c2
      have zQa0 := Qa.out.c0
      have zQa1 := Qa.out.c1
      have zQa2 := Qa.out.c2
      have zQp0 := Qp.out.c0
      have zQp1 := Qp.out.c1
      have zQp2 := Qp.out.c2
      have zQu0 := Qu.out.c0
      have zQu1 := Qu.out.c1
      have zQu2 := Qu.out.c2
      have zQq0 := Qq.out.c0
      have zQq1 := Qq.out.c1
      have zQq2 := Qq.out.c2
      have zQr0 := Qr.out.c0
      have zQr1 := Qr.out.c1
      have zQr2 := Qr.out.c2
      have zQv0 := Qv.out.c0
      have zQv1 := Qv.out.c1
      have zQv2 := Qv.out.c2
      have zQd0 := Qd.out.c0
      have zQd1 := Qd.out.c1
      have zQd2 := Qd.out.c2
      go_wp2_with fail
      refine (pffloor F1.out (by omega)).mono ?_
      rintro e w16 ⟨vf, he, hNf, hlf, hsf, hb⟩
      subst he
      clear zX0 zX1 zX2 zX3 zX4 zX5 zX6 zQs0 zQs1 zQs2 zQa0 zQa1 zQa2 zQp0 zQp1 zQp2 zQu0 zQu1 zQu2 zQq0 zQq1 zQq2 zQr0 zQr1 zQr2 zQv0 zQv1 zQv2 zQd0 zQd1 zQd2
      have F1' := Lib.hid (F1.out.up hb)
      clear F1
      have F1 := F1'
      clear F1'
      have F2' := Lib.hid (F2.out.up hb)
      clear F2
      have F2 := F2'
      clear F2'
      have Fs' := Lib.hid (Fs.out.up hb)
      clear Fs
      have Fs := Fs'
      clear Fs'
      have Fa' := Lib.hid (Fa.out.up hb)
      clear Fa
      have Fa := Fa'
      clear Fa'
      have Fp' := Lib.hid (Fp.out.up hb)
      clear Fp
      have Fp := Fp'
      clear Fp'
      have Fu' := Lib.hid (Fu.out.up hb)
      clear Fu
      have Fu := Fu'
      clear Fu'
      have Fq' := Lib.hid (Fq.out.up hb)
      clear Fq
      have Fq := Fq'
      clear Fq'
      have Fr' := Lib.hid (Fr.out.up hb)
      clear Fr
      have Fr := Fr'
      clear Fr'
      have Fv' := Lib.hid (Fv.out.up hb)
      clear Fv
      have Fv := Fv'
      clear Fv'
      have Qs' := Lib.hid (Qs.out.below hb Qs.out.lt)
      clear Qs
      have Qs := Qs'
      clear Qs'
      have Qa' := Lib.hid (Qa.out.below hb Qa.out.lt)
      clear Qa
      have Qa := Qa'
      clear Qa'
      have Qp' := Lib.hid (Qp.out.below hb Qp.out.lt)
      clear Qp
      have Qp := Qp'
      clear Qp'
      have Qu' := Lib.hid (Qu.out.below hb Qu.out.lt)
      clear Qu
      have Qu := Qu'
      clear Qu'
      have Qq' := Lib.hid (Qq.out.below hb Qq.out.lt)
      clear Qq
      have Qq := Qq'
      clear Qq'
      have Qr' := Lib.hid (Qr.out.below hb Qr.out.lt)
      clear Qr
      have Qr := Qr'
      clear Qr'
      have Qv' := Lib.hid (Qv.out.below hb Qv.out.lt)
      clear Qv
      have Qv := Qv'
      clear Qv'
      have Qd' := Lib.hid (Qd.out.below hb Qd.out.lt)
      clear Qd
      have Qd := Qd'
      clear Qd'
      have X' := Lib.hid (X.out.below hb)
      clear X
      have X := X'
      clear X'
      have HB' := Lib.hid (HB.out.trans (hb.mono HB.out.size))
      clear HB
      have HB := HB'
      clear HB'
      clear hb
      obtain ⟨Af, cf, rfl, -⟩ := hNf.form
      generalize hfl : (dg (N1 / (D1 : Int)).natAbs).length = lf at *
      clear hfl hlf hsf
      have NF := Lib.hid hNf
      clear hNf
      have zX0 := X.out.c0
      have zX1 := X.out.c1
      have zX2 := X.out.c2
      have zX3 := X.out.c3
      have zX4 := X.out.c4
      have zX5 := X.out.c5
      have zX6 := X.out.c6
      have zQs0 := Qs.out.c0
      have zQs1 := Qs.out.c1
      have zQs2 := Qs.out.c2
      have zQa0 := Qa.out.c0
      have zQa1 := Qa.out.c1
      have zQa2 := Qa.out.c2
      have zQp0 := Qp.out.c0
      have zQp1 := Qp.out.c1
      have zQp2 := Qp.out.c2
      have zQu0 := Qu.out.c0
      have zQu1 := Qu.out.c1
      have zQu2 := Qu.out.c2
      have zQq0 := Qq.out.c0
      have zQq1 := Qq.out.c1
      have zQq2 := Qq.out.c2
      have zQr0 := Qr.out.c0
      have zQr1 := Qr.out.c1
      have zQr2 := Qr.out.c2
      have zQv0 := Qv.out.c0
      have zQv1 := Qv.out.c1
      have zQv2 := Qv.out.c2
      have zQd0 := Qd.out.c0
      have zQd1 := Qd.out.c1
      have zQd2 := Qd.out.c2
      go_wp2_with fail
      have ho := one_new w16
      have hb := al_below w16 (.cells #[.int .u32 1] 64)
      have NF' := Lib.hid (NF.out.up hb)
      clear NF
      have NF := NF'
      clear NF'
      clear zX0 zX1 zX2 zX3 zX4 zX5 zX6 zQs0 zQs1 zQs2 zQa0 zQa1 zQa2 zQp0 zQp1 zQp2 zQu0 zQu1 zQu2 zQq0 zQq1 zQq2 zQr0 zQr1 zQr2 zQv0 zQv1 zQv2 zQd0 zQd1 zQd2
      have F1' := Lib.hid (F1.out.up hb)
      clear F1
      have F1 := F1'
      clear F1'
      have F2' := Lib.hid (F2.out.up hb)
      clear F2
      have F2 := F2'
      clear F2'
      have Fs' := Lib.hid (Fs.out.up hb)
      clear Fs
      have Fs := Fs'
      clear Fs'
      have Fa' := Lib.hid (Fa.out.up hb)
      clear Fa
      have Fa := Fa'
      clear Fa'
      have Fp' := Lib.hid (Fp.out.up hb)
      clear Fp
      have Fp := Fp'
      clear Fp'
      have Fu' := Lib.hid (Fu.out.up hb)
      clear Fu
      have Fu := Fu'
      clear Fu'
      have Fq' := Lib.hid (Fq.out.up hb)
      clear Fq
      have Fq := Fq'
      clear Fq'
      have Fr' := Lib.hid (Fr.out.up hb)
      clear Fr
      have Fr := Fr'
      clear Fr'
      have Fv' := Lib.hid (Fv.out.up hb)
      clear Fv
      have Fv := Fv'
      clear Fv'
      have Qs' := Lib.hid (Qs.out.below hb Qs.out.lt)
      clear Qs
      have Qs := Qs'
      clear Qs'
      have Qa' := Lib.hid (Qa.out.below hb Qa.out.lt)
      clear Qa
      have Qa := Qa'
      clear Qa'
      have Qp' := Lib.hid (Qp.out.below hb Qp.out.lt)
      clear Qp
      have Qp := Qp'
      clear Qp'
      have Qu' := Lib.hid (Qu.out.below hb Qu.out.lt)
      clear Qu
      have Qu := Qu'
      clear Qu'
      have Qq' := Lib.hid (Qq.out.below hb Qq.out.lt)
      clear Qq
      have Qq := Qq'
      clear Qq'
      have Qr' := Lib.hid (Qr.out.below hb Qr.out.lt)
      clear Qr
      have Qr := Qr'
      clear Qr'
      have Qv' := Lib.hid (Qv.out.below hb Qv.out.lt)
      clear Qv
      have Qv := Qv'
      clear Qv'
      have Qd' := Lib.hid (Qd.out.below hb Qd.out.lt)
      clear Qd
      have Qd := Qd'
      clear Qd'
      have X' := Lib.hid (X.out.below hb)
      clear X
      have X := X'
      clear X'
      have HB' := Lib.hid (HB.out.trans (hb.mono HB.out.size))
      clear HB
      have HB := HB'
      clear HB'
      clear hb
      have FF := Lib.hid (floor_fq F1.out.sg E1.out NF.out (show Num (w16.alloc (.cells #[.int .u32 1] 64)) (w16.alloc (.cells #[.int .u32 1] 64)).heap.size _ 1 by rw [World.size_alloc]; exact ho) F1.out.ln)
      clear ho NF
      refine (pfsub F1.out FF.out (by omega)).mono ?_
      rintro e w17 ⟨sx, Ax, lx, cx, Bx, mx, dx, Nx, Dx, he, hFx, hPx, hb⟩
      subst he
      have F1' := Lib.hid (F1.out.up hb)
      clear F1
      have F1 := F1'
      clear F1'
      have F2' := Lib.hid (F2.out.up hb)
      clear F2
      have F2 := F2'
      clear F2'
      have Fs' := Lib.hid (Fs.out.up hb)
      clear Fs
      have Fs := Fs'
      clear Fs'
      have Fa' := Lib.hid (Fa.out.up hb)
      clear Fa
      have Fa := Fa'
      clear Fa'
      have Fp' := Lib.hid (Fp.out.up hb)
      clear Fp
      have Fp := Fp'
      clear Fp'
      have Fu' := Lib.hid (Fu.out.up hb)
      clear Fu
      have Fu := Fu'
      clear Fu'
      have Fq' := Lib.hid (Fq.out.up hb)
      clear Fq
      have Fq := Fq'
      clear Fq'
      have Fr' := Lib.hid (Fr.out.up hb)
      clear Fr
      have Fr := Fr'
      clear Fr'
      have Fv' := Lib.hid (Fv.out.up hb)
      clear Fv
      have Fv := Fv'
      clear Fv'
      have Qs' := Lib.hid (Qs.out.below hb Qs.out.lt)
      clear Qs
      have Qs := Qs'
      clear Qs'
      have Qa' := Lib.hid (Qa.out.below hb Qa.out.lt)
      clear Qa
      have Qa := Qa'
      clear Qa'
      have Qp' := Lib.hid (Qp.out.below hb Qp.out.lt)
      clear Qp
      have Qp := Qp'
      clear Qp'
      have Qu' := Lib.hid (Qu.out.below hb Qu.out.lt)
      clear Qu
      have Qu := Qu'
      clear Qu'
      have Qq' := Lib.hid (Qq.out.below hb Qq.out.lt)
      clear Qq
      have Qq := Qq'
      clear Qq'
      have Qr' := Lib.hid (Qr.out.below hb Qr.out.lt)
      clear Qr
      have Qr := Qr'
      clear Qr'
      have Qv' := Lib.hid (Qv.out.below hb Qv.out.lt)
      clear Qv
      have Qv := Qv'
      clear Qv'
      have Qd' := Lib.hid (Qd.out.below hb Qd.out.lt)
      clear Qd
      have Qd := Qd'
      clear Qd'
      have X' := Lib.hid (X.out.below hb)
      clear X
      have X := X'
      clear X'
      have HB' := Lib.hid (HB.out.trans (hb.mono HB.out.size))
      clear HB
      have HB := HB'
      clear HB'
      clear hb
      clear FF
      have hsm := rest_small E1.out hFx.ne hPx
      have hsx : sx = false := by rw [hFx.sg]; exact decide_eq_false (by have := hsm.1; omega)
      subst hsx
      have Fx := Lib.hid hFx
      have CX := Lib.hid (show cmp3 (Nx * ((1 : Nat) : Int)) (((1 : Nat) : Int) * (Dx : Int)) = -1 by unfold cmp3; rw [if_pos hsm.2])
      clear hFx hPx hsm
      have neQsQx := Lib.hid (Nat.ne_of_lt Qs.out.lt)
      have neQaQx := Lib.hid (Nat.ne_of_lt Qa.out.lt)
      have neQpQx := Lib.hid (Nat.ne_of_lt Qp.out.lt)
      have neQuQx := Lib.hid (Nat.ne_of_lt Qu.out.lt)
      have neQqQx := Lib.hid (Nat.ne_of_lt Qq.out.lt)
      have neQrQx := Lib.hid (Nat.ne_of_lt Qr.out.lt)
      have neQvQx := Lib.hid (Nat.ne_of_lt Qv.out.lt)
      have neQdQx := Lib.hid (Nat.ne_of_lt Qd.out.lt)
      have neXQx := Lib.hid (Nat.ne_of_lt X.out.lt)
      have geQx := Lib.hid HB.out.size
      have hb := al_below w17 (.cells #[.bool false, (.slice Ax lx cx), (.slice Bx mx dx)] 48)
      have F1' := Lib.hid (F1.out.up hb)
      clear F1
      have F1 := F1'
      clear F1'
      have F2' := Lib.hid (F2.out.up hb)
      clear F2
      have F2 := F2'
      clear F2'
      have Fs' := Lib.hid (Fs.out.up hb)
      clear Fs
      have Fs := Fs'
      clear Fs'
      have Fa' := Lib.hid (Fa.out.up hb)
      clear Fa
      have Fa := Fa'
      clear Fa'
      have Fp' := Lib.hid (Fp.out.up hb)
      clear Fp
      have Fp := Fp'
      clear Fp'
      have Fu' := Lib.hid (Fu.out.up hb)
      clear Fu
      have Fu := Fu'
      clear Fu'
      have Fq' := Lib.hid (Fq.out.up hb)
      clear Fq
      have Fq := Fq'
      clear Fq'
      have Fr' := Lib.hid (Fr.out.up hb)
      clear Fr
      have Fr := Fr'
      clear Fr'
      have Fv' := Lib.hid (Fv.out.up hb)
      clear Fv
      have Fv := Fv'
      clear Fv'
      have Fx' := Lib.hid (Fx.out.up hb)
      clear Fx
      have Fx := Fx'
      clear Fx'
      have Qs' := Lib.hid (Qs.out.below hb Qs.out.lt)
      clear Qs
      have Qs := Qs'
      clear Qs'
      have Qa' := Lib.hid (Qa.out.below hb Qa.out.lt)
      clear Qa
      have Qa := Qa'
      clear Qa'
      have Qp' := Lib.hid (Qp.out.below hb Qp.out.lt)
      clear Qp
      have Qp := Qp'
      clear Qp'
      have Qu' := Lib.hid (Qu.out.below hb Qu.out.lt)
      clear Qu
      have Qu := Qu'
      clear Qu'
      have Qq' := Lib.hid (Qq.out.below hb Qq.out.lt)
      clear Qq
      have Qq := Qq'
      clear Qq'
      have Qr' := Lib.hid (Qr.out.below hb Qr.out.lt)
      clear Qr
      have Qr := Qr'
      clear Qr'
      have Qv' := Lib.hid (Qv.out.below hb Qv.out.lt)
      clear Qv
      have Qv := Qv'
      clear Qv'
      have Qd' := Lib.hid (Qd.out.below hb Qd.out.lt)
      clear Qd
      have Qd := Qd'
      clear Qd'
      have X' := Lib.hid (X.out.below hb)
      clear X
      have X := X'
      clear X'
      have HB' := Lib.hid (HB.out.trans (hb.mono HB.out.size))
      clear HB
      have HB := HB'
      clear HB'
      clear hb
      have Qx := Lib.hid (QB.new w17 false (.slice Ax lx cx) (.slice Bx mx dx))
      have zX0 := X.out.c0
      have zX1 := X.out.c1
      have zX2 := X.out.c2
      have zX3 := X.out.c3
      have zX4 := X.out.c4
      have zX5 := X.out.c5
      have zX6 := X.out.c6
      have zQs0 := Qs.out.c0
      have zQs1 := Qs.out.c1
      have zQs2 := Qs.out.c2
      have zQa0 := Qa.out.c0
      have zQa1 := Qa.out.c1
      have zQa2 := Qa.out.c2
      have zQp0 := Qp.out.c0
      have zQp1 := Qp.out.c1
      have zQp2 := Qp.out.c2
      have zQu0 := Qu.out.c0
      have zQu1 := Qu.out.c1
      have zQu2 := Qu.out.c2
      have zQq0 := Qq.out.c0
      have zQq1 := Qq.out.c1
      have zQq2 := Qq.out.c2
      have zQr0 := Qr.out.c0
      have zQr1 := Qr.out.c1
      have zQr2 := Qr.out.c2
      have zQv0 := Qv.out.c0
      have zQv1 := Qv.out.c1
      have zQv2 := Qv.out.c2
      have zQd0 := Qd.out.c0
      have zQd1 := Qd.out.c1
      have zQd2 := Qd.out.c2
      have zQx0 := Qx.out.c0
      have zQx1 := Qx.out.c1
      have zQx2 := Qx.out.c2
      go_wp2_with fail
      generalize w17.alloc (.cells #[.bool false, (.slice Ax lx cx), (.slice Bx mx dx)] 48) = wQx at *
      generalize w17.heap.size = gQx at *
      clear zX0 zX1 zX2 zX3 zX4 zX5 zX6 zQs0 zQs1 zQs2 zQa0 zQa1 zQa2 zQp0 zQp1 zQp2 zQu0 zQu1 zQu2 zQq0 zQq1 zQq2 zQr0 zQr1 zQr2 zQv0 zQv1 zQv2 zQd0 zQd1 zQd2 zQx0 zQx1 zQx2
      clear Qs
      clear Qa
      clear Qp
      clear Qu
      clear Qq
      clear Qr
      clear Qv
      clear Qd
      clear F1
      clear F2
      clear Fs
      clear Fa
      clear Fp
      clear Fu
      clear Fq
      clear Fr
      clear Fv
      have HBd := Lib.hid HB.out.drew
      clear HB
      have HB := HBd
      clear HBd
      have Qx' := Lib.hid (show QB wQx.drew _ _ _ _ from Qx.out)
      clear Qx
      have Qx := Qx'
      clear Qx'
      have Fx' := Lib.hid (Fx.out.up (Below.refl _ _).drew)
      clear Fx
      have Fx := Fx'
      clear Fx'
      have zz0 := Qx.out.c0
      have zy0 : wQx.cell? ⟨gQx, 0, none⟩ = _ := Qx.out.c0
      have zz1 := Qx.out.c1
      have zy1 : wQx.cell? ⟨gQx, 1, none⟩ = _ := Qx.out.c1
      have zz2 := Qx.out.c2
      have zy2 : wQx.cell? ⟨gQx, 2, none⟩ = _ := Qx.out.c2
      refine wp_region_noPanic ?_
      refine wp_region_held_drew (S := (fun w' => w'.cell? ⟨gQx, 0, none⟩ = some (.bool false) ∧ w'.cell? ⟨gQx, 1, none⟩ = some (.slice Ax lx cx) ∧ w'.cell? ⟨gQx, 2, none⟩ = some (.slice Bx mx dx))) (by kernel_rfl) (by refine ⟨?_, ?_, ?_⟩ <;> first | with_reducible assumption | go_keep) (fun hHeld => ?_)
      refine wpAnyH_take (i := 0) (oi := ⟨some 210, _, _, _, _, _⟩) (v := ?_) rfl (by kernel_rfl) (by kernel_rfl) (by kernel_rfl) (fun _ _ _ h => h) (Or.inl ⟨by rfl, ?_⟩) (by assumption) ?_
      rotate_left
      · (intro w hSw; (try dsimp only at hSw); go_simp; (try (with_reducible rfl)))
      (try simp only [Act.put, List.setIfInBounds_toArray, List.set_cons_zero, List.set_cons_succ])
      refine wpAnyH_ready (rs := [1]) (by kernel_rfl) (by simp) (AllReadyH.cons (o := ⟨some 211, _, _, _, _, _⟩) rfl (fun K hK => ?_) AllReadyH.nil)
      rw [if_pos (by rfl)]
      go_simp
      go_at_call 69
      refine Calls.mono (aw_quo false 1 1 (by omega) (by omega) (by omega) (by omega) _) ?_
      rintro e x1 ⟨A9, l9, c9, B9, m9, d9, he, hn9, hd9, hb⟩
      subst he
      have Fx' := Lib.hid (Fx.out.up hb)
      clear Fx
      have Fx := Fx'
      clear Fx'
      have Qx' := Lib.hid (Qx.out.below hb Qx.out.lt)
      clear Qx
      have Qx := Qx'
      clear Qx'
      have HB' := Lib.hid (HB.out.trans (hb.mono HB.out.size))
      clear HB
      have HB := HB'
      clear HB'
      clear hb
      have F9 := Lib.hid (one_fq hn9 hd9)
      clear hn9 hd9
      have q10 := Qx.out.c0
      have q11 := Qx.out.c1
      have q12 := Qx.out.c2
      (try go_wp2_with fail)
      refine hK.out _ _ (by (try dsimp only); refine ⟨?_, ?_, ?_⟩ <;> first | with_reducible assumption | go_keep) (fun hHeld => ?_)
      clear hK K
      (try simp only [Act.put, List.setIfInBounds_toArray, List.set_cons_zero, List.set_cons_succ])
      refine wpAnyH_ready (rs := [2]) (by kernel_rfl) (by simp) (AllReadyH.cons (o := ⟨some 212, _, _, _, _, _⟩) rfl (fun K hK => ?_) AllReadyH.nil)
      rw [if_pos (by rfl)]
      go_simp
      go_at_call 58
      refine Calls.mono (CX.out ▸ pfcmp Fx.out F9.out (by omega) : Calls _ _ _ _ (fun e w' => e = .returned (.tuple #[.int .i64 (-1), .int .i64 0]) ∧ Below _ _ w')) ?_
      rintro e x2 ⟨he, hb⟩
      subst he
      clear F9
      have Fx' := Lib.hid (Fx.out.up hb)
      clear Fx
      have Fx := Fx'
      clear Fx'
      have Qx' := Lib.hid (Qx.out.below hb Qx.out.lt)
      clear Qx
      have Qx := Qx'
      clear Qx'
      have HB' := Lib.hid (HB.out.trans (hb.mono HB.out.size))
      clear HB
      have HB := HB'
      clear HB'
      clear hb
      have q20 := Qx.out.c0
      have q21 := Qx.out.c1
      have q22 := Qx.out.c2
      (try go_wp2_with fail)
      refine hK.out _ _ (by (try dsimp only); refine ⟨?_, ?_, ?_⟩ <;> first | with_reducible assumption | go_keep) (fun hHeld => ?_)
      clear hK K
      (try simp only [Act.put, List.setIfInBounds_toArray, List.set_cons_zero, List.set_cons_succ])
      refine wpAnyH_take (i := 3) (oi := ⟨some 209, _, _, _, _, _⟩) (v := ?_) rfl (by kernel_rfl) (by kernel_rfl) (by kernel_rfl) (fun _ _ _ h => h) (Or.inl ⟨by rfl, ?_⟩) (by assumption) ?_
      rotate_left
      · (intro w hSw; (try dsimp only at hSw); go_simp; (try (with_reducible rfl)))
      (try simp only [Act.put, List.setIfInBounds_toArray, List.set_cons_zero, List.set_cons_succ])
      refine wpAnyH_take (i := 4) (oi := ⟨some 213, _, _, _, _, _⟩) (v := ?_) rfl (by kernel_rfl) (by kernel_rfl) (by kernel_rfl) (fun _ _ _ h => h) (Or.inl ⟨by rfl, ?_⟩) (by assumption) ?_
      rotate_left
      · (intro w hSw; (try dsimp only at hSw); go_simp; (try (with_reducible rfl)))
      (try simp only [Act.put, List.setIfInBounds_toArray, List.set_cons_zero, List.set_cons_succ])
      refine wpAnyH_take (i := 5) (oi := ⟨some 214, _, _, _, _, _⟩) (v := ?_) rfl (by kernel_rfl) (by kernel_rfl) (by kernel_rfl) (fun _ _ _ h => h) (Or.inl ⟨by rfl, ?_⟩) (by assumption) ?_
      rotate_left
      · (intro w hSw; (try dsimp only at hSw); go_simp; (try (with_reducible rfl)))
      (try simp only [Act.put, List.setIfInBounds_toArray, List.set_cons_zero, List.set_cons_succ])
      refine wpAnyH_take (i := 6) (oi := ⟨some 22, _, _, _, _, _⟩) (v := ?_) rfl (by kernel_rfl) (by kernel_rfl) (by kernel_rfl) (fun _ _ _ h => h) (Or.inl ⟨by rfl, ?_⟩) (by assumption) ?_
      rotate_left
      · (intro w hSw; (try dsimp only at hSw); go_simp; (try (with_reducible rfl)))
      (try simp only [Act.put, List.setIfInBounds_toArray, List.set_cons_zero, List.set_cons_succ])
      refine wpAnyH_take (i := 7) (oi := ⟨some 12, _, _, _, _, _⟩) (v := ?_) rfl (by kernel_rfl) (by kernel_rfl) (by kernel_rfl) (fun _ _ _ h => h) (Or.inl ⟨by rfl, ?_⟩) (by assumption) ?_
      rotate_left
      · (intro w hSw; (try dsimp only at hSw); go_simp; (try (with_reducible rfl)))
      (try simp only [Act.put, List.setIfInBounds_toArray, List.set_cons_zero, List.set_cons_succ])
      refine wpAnyH_done (by kernel_rfl) ?_ _
      refine NoPanic.normal ?_
      go_wp2_with fail
      refine (awake_any _ (HT.out.below HB.out)).mono ?_
      rintro e x3 ⟨he, hb⟩
      subst he
      go_wp2_with fail
      go_ret
      exact ⟨rfl, HB.out.trans (hb.mono HB.out.size)⟩
end Go.Proofs.YtlababdfdjjjaaaGreatDoor
