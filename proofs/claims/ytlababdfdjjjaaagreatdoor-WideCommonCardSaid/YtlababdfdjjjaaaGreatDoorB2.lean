import Derived.Test.YtlababdfdjjjaaaGreatDoorB1
namespace Go.Proofs.YtlababdfdjjjaaaGreatDoor
open Go.RowKit

/-! divides returns true. -/
theorem div_carry {n d x : Nat} (hd : 0 < d) (h : n % d + x < d) : (n + x) / d = n / d ∧ (n + x) % d = n % d + x := by
  have e : n + x = (n % d + x) + d * (n / d) := by have := Nat.mod_add_div n d; omega
  rw [e, Nat.add_mul_div_left _ _ hd, Nat.add_mul_mod_self_left, Nat.div_eq_of_lt h, Nat.mod_eq_of_lt h]
  exact ⟨by omega, rfl⟩
theorem div_carry1 {n d x : Nat} (hd : 0 < d) (hx : x < d) (h : d ≤ n % d + x) : (n + x) / d = n / d + 1 ∧ (n + x) % d = n % d + x - d := by
  have h1 := Nat.mod_lt n hd
  have e : n + x = (n % d + x - d) + d * (n / d + 1) := by have := Nat.mod_add_div n d; rw [Nat.mul_add]; omega
  rw [e, Nat.add_mul_div_left _ _ hd, Nat.add_mul_mod_self_left, Nat.div_eq_of_lt (by omega), Nat.mod_eq_of_lt (by omega)]
  exact ⟨by omega, rfl⟩

set_option maxRecDepth 100000 in
set_option maxHeartbeats 16000000 in
theorem divides_any (vn : Value) (B : Option Addr) (cb : Nat) (vc : Value) (n d c : Nat) (w : World) (hn : Arg w vn (dg n)) (hd : Arg w (.slice B (dg d).length cb) (dg d)) (hc : Arg w vc (dg c)) (ln : (dg n).length ≤ 300) (ld : (dg d).length ≤ 150) (lc : (dg c).length ≤ 150) :
    Calls Tryz.prog 68 #[vn, .slice B (dg d).length cb, vc] w fun e w' => e = .returned (.bool true) ∧ Below w.heap.size w w' := by
  by_cases h0 : d = 0
  · subst h0
    have HD0 : Hid (∀ W, Below w.heap.size w W → Calls Tryz.prog 40 #[vn, .slice B (dg 0).length cb] W fun e w' => ∃ q r, e = .returned (.tuple #[q, r, .int .i64 4]) ∧ Below W.heap.size W w') := Lib.hid fun W hW => nDiv0 (hn.up hW) (hd.up hW) (by omega)
    rw [dg_zero] at HD0 ⊢
    rw [show ([] : List Nat).length = 0 from rfl] at HD0 ⊢
    clear hn hd hc ln ld lc
    go_enter Tryz.func68, Tryz.ntmps68
    go_wp2_with fail
    refine (HD0.out w (Below.refl _ _)).mono ?_
    rintro e w1 ⟨q, r, he, hb⟩
    subst he
    go_wp2_with fail
    go_ret
    exact ⟨rfl, hb⟩
  · have hdp : 0 < d := Nat.pos_of_ne_zero h0
    have hl0 : (dg d).length ≠ 0 := fun h => h0 (dg_nil.1 (List.eq_nil_of_length_eq_zero h))
    have hq0 : (((dg d).length : Int) == 0) = false := beq_eq_false_iff_ne.2 (by omega)
    have l1 : (dg (n / d)).length ≤ 300 := Nat.le_trans (dg_mono (Nat.div_le_self _ _)) ln
    have l2 : (dg (n % d)).length ≤ 150 := Nat.le_trans (dg_mono (Nat.le_of_lt (Nat.mod_lt _ hdp))) ld
    have l3 : (dg (n / d * d)).length ≤ 300 := Nat.le_trans (dg_mono (Nat.div_mul_le_self _ _)) ln
    have e1 : n / d * d + n % d = n := by rw [Nat.mul_comm]; exact Nat.div_add_mod n d
    have l4 : (dg (c % d)).length ≤ 150 := Nat.le_trans (dg_mono (Nat.le_of_lt (Nat.mod_lt _ hdp))) ld
    have l5 := len_add n (c % d)
    have l6 := len_add (n % d) (c % d)
    have l7 := len_add (n / d) 1
    have l8 : (dg 1).length = 1 := by rw [dg_one]; rfl
    have k1 : cmpI (n % d) d = -1 := cmpI_lt (Nat.mod_lt _ hdp)
    have N := Lib.hid hn
    have D := Lib.hid hd
    have C := Lib.hid hc
    have HB := Lib.hid (Below.refl w.heap.size w)
    have K1 := Lib.hid k1
    have E1 := Lib.hid e1
    have M1 := Lib.hid l1
    have M2 := Lib.hid l2
    have M3 := Lib.hid l3
    have M4 := Lib.hid l4
    have M5 := Lib.hid l5
    have M6 := Lib.hid l6
    have M7 := Lib.hid l7
    have M8 := Lib.hid l8
    have MN := Lib.hid ln
    have MD := Lib.hid ld
    have MC := Lib.hid lc
    have H0 := Lib.hid h0
    have HP := Lib.hid hdp
    clear hn hd hc ln ld lc l1 l2 l3 l4 l5 l6 l7 l8 e1 k1 h0 hdp
    have hq1 : ((dg d).length : Int) ≠ 0 := by omega
    clear hl0
    go_enter Tryz.func68, Tryz.ntmps68
    go_wp2_with fail
    refine (nDiv N.out D.out (by have := MN.out; have := MD.out; have := MC.out; have := M1.out; have := M2.out; have := M3.out; have := M4.out; have := M5.out; have := M6.out; have := M7.out; have := M8.out; omega) (by have := MN.out; have := MD.out; have := MC.out; have := M1.out; have := M2.out; have := M3.out; have := M4.out; have := M5.out; have := M6.out; have := M7.out; have := M8.out; omega) H0.out).mono ?_
    rintro e w1 ⟨q1, r1, he, hQ, hR, hb⟩
    subst he
    have N' := Lib.hid (N.out.up hb)
    clear N
    have N := N'
    clear N'
    have D' := Lib.hid (D.out.up hb)
    clear D
    have D := D'
    clear D'
    have C' := Lib.hid (C.out.up hb)
    clear C
    have C := C'
    clear C'
    have HB' := Lib.hid (HB.out.trans (hb.mono HB.out.size))
    clear HB
    have HB := HB'
    clear HB'
    clear hb
    have Q := Lib.hid hQ
    clear hQ
    have R := Lib.hid hR
    clear hR
    go_wp2_with fail
    refine (nMul Q.out D.out (by have := MN.out; have := MD.out; have := MC.out; have := M1.out; have := M2.out; have := M3.out; have := M4.out; have := M5.out; have := M6.out; have := M7.out; have := M8.out; omega) (by have := MN.out; have := MD.out; have := MC.out; have := M1.out; have := M2.out; have := M3.out; have := M4.out; have := M5.out; have := M6.out; have := M7.out; have := M8.out; omega) (by have := MN.out; have := MD.out; have := MC.out; have := M1.out; have := M2.out; have := M3.out; have := M4.out; have := M5.out; have := M6.out; have := M7.out; have := M8.out; omega)).mono ?_
    rintro e w2 ⟨p1, he, hP, hb⟩
    subst he
    have N' := Lib.hid (N.out.up hb)
    clear N
    have N := N'
    clear N'
    have D' := Lib.hid (D.out.up hb)
    clear D
    have D := D'
    clear D'
    have C' := Lib.hid (C.out.up hb)
    clear C
    have C := C'
    clear C'
    have Q' := Lib.hid (Q.out.up hb)
    clear Q
    have Q := Q'
    clear Q'
    have R' := Lib.hid (R.out.up hb)
    clear R
    have R := R'
    clear R'
    have HB' := Lib.hid (HB.out.trans (hb.mono HB.out.size))
    clear HB
    have HB := HB'
    clear HB'
    clear hb
    have P := Lib.hid hP
    clear hP
    go_wp2_with fail
    refine (nAdd P.out R.out (by have := MN.out; have := MD.out; have := MC.out; have := M1.out; have := M2.out; have := M3.out; have := M4.out; have := M5.out; have := M6.out; have := M7.out; have := M8.out; omega) (by have := MN.out; have := MD.out; have := MC.out; have := M1.out; have := M2.out; have := M3.out; have := M4.out; have := M5.out; have := M6.out; have := M7.out; have := M8.out; omega) (by rw [E1.out]; exact Nat.le_trans MN.out (by omega))).mono ?_
    rintro e w3 ⟨s1, he, hS, hb⟩
    subst he
    have N' := Lib.hid (N.out.up hb)
    clear N
    have N := N'
    clear N'
    have D' := Lib.hid (D.out.up hb)
    clear D
    have D := D'
    clear D'
    have C' := Lib.hid (C.out.up hb)
    clear C
    have C := C'
    clear C'
    have Q' := Lib.hid (Q.out.up hb)
    clear Q
    have Q := Q'
    clear Q'
    have R' := Lib.hid (R.out.up hb)
    clear R
    have R := R'
    clear R'
    have P' := Lib.hid (P.out.up hb)
    clear P
    have P := P'
    clear P'
    have HB' := Lib.hid (HB.out.trans (hb.mono HB.out.size))
    clear HB
    have HB := HB'
    clear HB'
    clear hb
    have S := Lib.hid hS
    clear hS
    go_wp2_with fail
    rw [E1.out] at S
    refine ((K1.out ▸ nCmp R.out D.out (by have := MN.out; have := MD.out; have := MC.out; have := M1.out; have := M2.out; have := M3.out; have := M4.out; have := M5.out; have := M6.out; have := M7.out; have := M8.out; omega) (by have := MN.out; have := MD.out; have := MC.out; have := M1.out; have := M2.out; have := M3.out; have := M4.out; have := M5.out; have := M6.out; have := M7.out; have := M8.out; omega) : Calls _ _ _ _ (fun e w' => e = .returned (.tuple #[.int .i64 (-1), .int .i64 0]) ∧ Below _ _ w'))).mono ?_
    rintro e w4 ⟨he, hb⟩
    subst he
    have N' := Lib.hid (N.out.up hb)
    clear N
    have N := N'
    clear N'
    have D' := Lib.hid (D.out.up hb)
    clear D
    have D := D'
    clear D'
    have C' := Lib.hid (C.out.up hb)
    clear C
    have C := C'
    clear C'
    have Q' := Lib.hid (Q.out.up hb)
    clear Q
    have Q := Q'
    clear Q'
    have R' := Lib.hid (R.out.up hb)
    clear R
    have R := R'
    clear R'
    have P' := Lib.hid (P.out.up hb)
    clear P
    have P := P'
    clear P'
    have S' := Lib.hid (S.out.up hb)
    clear S
    have S := S'
    clear S'
    have HB' := Lib.hid (HB.out.trans (hb.mono HB.out.size))
    clear HB
    have HB := HB'
    clear HB'
    clear hb
    go_wp2_with fail
    refine (nDiv C.out D.out (by have := MN.out; have := MD.out; have := MC.out; have := M1.out; have := M2.out; have := M3.out; have := M4.out; have := M5.out; have := M6.out; have := M7.out; have := M8.out; omega) (by have := MN.out; have := MD.out; have := MC.out; have := M1.out; have := M2.out; have := M3.out; have := M4.out; have := M5.out; have := M6.out; have := M7.out; have := M8.out; omega) H0.out).mono ?_
    rintro e w5 ⟨q2, r2, he, hX, hY, hb⟩
    subst he
    have N' := Lib.hid (N.out.up hb)
    clear N
    have N := N'
    clear N'
    have D' := Lib.hid (D.out.up hb)
    clear D
    have D := D'
    clear D'
    have C' := Lib.hid (C.out.up hb)
    clear C
    have C := C'
    clear C'
    have Q' := Lib.hid (Q.out.up hb)
    clear Q
    have Q := Q'
    clear Q'
    have R' := Lib.hid (R.out.up hb)
    clear R
    have R := R'
    clear R'
    have P' := Lib.hid (P.out.up hb)
    clear P
    have P := P'
    clear P'
    have S' := Lib.hid (S.out.up hb)
    clear S
    have S := S'
    clear S'
    have HB' := Lib.hid (HB.out.trans (hb.mono HB.out.size))
    clear HB
    have HB := HB'
    clear HB'
    clear hb
    have X := Lib.hid hX
    clear hX
    have Y := Lib.hid hY
    clear hY
    go_wp2_with fail
    refine (aw_same _ _ _ _ S.out N.out).mono ?_
    rintro e w6 ⟨he, hb⟩
    subst he
    have N' := Lib.hid (N.out.up hb)
    clear N
    have N := N'
    clear N'
    have D' := Lib.hid (D.out.up hb)
    clear D
    have D := D'
    clear D'
    have C' := Lib.hid (C.out.up hb)
    clear C
    have C := C'
    clear C'
    have Q' := Lib.hid (Q.out.up hb)
    clear Q
    have Q := Q'
    clear Q'
    have R' := Lib.hid (R.out.up hb)
    clear R
    have R := R'
    clear R'
    have P' := Lib.hid (P.out.up hb)
    clear P
    have P := P'
    clear P'
    have S' := Lib.hid (S.out.up hb)
    clear S
    have S := S'
    clear S'
    have X' := Lib.hid (X.out.up hb)
    clear X
    have X := X'
    clear X'
    have Y' := Lib.hid (Y.out.up hb)
    clear Y
    have Y := Y'
    clear Y'
    have HB' := Lib.hid (HB.out.trans (hb.mono HB.out.size))
    clear HB
    have HB := HB'
    clear HB'
    clear hb
    go_wp2_with fail
    refine (nAdd N.out Y.out (by have := MN.out; have := MD.out; have := MC.out; have := M1.out; have := M2.out; have := M3.out; have := M4.out; have := M5.out; have := M6.out; have := M7.out; have := M8.out; omega) (by have := MN.out; have := MD.out; have := MC.out; have := M1.out; have := M2.out; have := M3.out; have := M4.out; have := M5.out; have := M6.out; have := M7.out; have := M8.out; omega) (by have := MN.out; have := MD.out; have := MC.out; have := M1.out; have := M2.out; have := M3.out; have := M4.out; have := M5.out; have := M6.out; have := M7.out; have := M8.out; omega)).mono ?_
    rintro e w7 ⟨m1, he, hMo, hb⟩
    subst he
    have N' := Lib.hid (N.out.up hb)
    clear N
    have N := N'
    clear N'
    have D' := Lib.hid (D.out.up hb)
    clear D
    have D := D'
    clear D'
    have C' := Lib.hid (C.out.up hb)
    clear C
    have C := C'
    clear C'
    have Q' := Lib.hid (Q.out.up hb)
    clear Q
    have Q := Q'
    clear Q'
    have R' := Lib.hid (R.out.up hb)
    clear R
    have R := R'
    clear R'
    have P' := Lib.hid (P.out.up hb)
    clear P
    have P := P'
    clear P'
    have S' := Lib.hid (S.out.up hb)
    clear S
    have S := S'
    clear S'
    have X' := Lib.hid (X.out.up hb)
    clear X
    have X := X'
    clear X'
    have Y' := Lib.hid (Y.out.up hb)
    clear Y
    have Y := Y'
    clear Y'
    have HB' := Lib.hid (HB.out.trans (hb.mono HB.out.size))
    clear HB
    have HB := HB'
    clear HB'
    clear hb
    have Mo := Lib.hid hMo
    clear hMo
    go_wp2_with fail
    refine (nDiv Mo.out D.out (by have := MN.out; have := MD.out; have := MC.out; have := M1.out; have := M2.out; have := M3.out; have := M4.out; have := M5.out; have := M6.out; have := M7.out; have := M8.out; omega) (by have := MN.out; have := MD.out; have := MC.out; have := M1.out; have := M2.out; have := M3.out; have := M4.out; have := M5.out; have := M6.out; have := M7.out; have := M8.out; omega) H0.out).mono ?_
    rintro e w8 ⟨t1, u1, he, hTt, hU, hb⟩
    subst he
    have N' := Lib.hid (N.out.up hb)
    clear N
    have N := N'
    clear N'
    have D' := Lib.hid (D.out.up hb)
    clear D
    have D := D'
    clear D'
    have C' := Lib.hid (C.out.up hb)
    clear C
    have C := C'
    clear C'
    have Q' := Lib.hid (Q.out.up hb)
    clear Q
    have Q := Q'
    clear Q'
    have R' := Lib.hid (R.out.up hb)
    clear R
    have R := R'
    clear R'
    have P' := Lib.hid (P.out.up hb)
    clear P
    have P := P'
    clear P'
    have S' := Lib.hid (S.out.up hb)
    clear S
    have S := S'
    clear S'
    have X' := Lib.hid (X.out.up hb)
    clear X
    have X := X'
    clear X'
    have Y' := Lib.hid (Y.out.up hb)
    clear Y
    have Y := Y'
    clear Y'
    have Mo' := Lib.hid (Mo.out.up hb)
    clear Mo
    have Mo := Mo'
    clear Mo'
    have HB' := Lib.hid (HB.out.trans (hb.mono HB.out.size))
    clear HB
    have HB := HB'
    clear HB'
    clear hb
    have Tt := Lib.hid hTt
    clear hTt
    have U := Lib.hid hU
    clear hU
    go_wp2_with fail
    refine (nAdd R.out Y.out (by have := MN.out; have := MD.out; have := MC.out; have := M1.out; have := M2.out; have := M3.out; have := M4.out; have := M5.out; have := M6.out; have := M7.out; have := M8.out; omega) (by have := MN.out; have := MD.out; have := MC.out; have := M1.out; have := M2.out; have := M3.out; have := M4.out; have := M5.out; have := M6.out; have := M7.out; have := M8.out; omega) (by have := MN.out; have := MD.out; have := MC.out; have := M1.out; have := M2.out; have := M3.out; have := M4.out; have := M5.out; have := M6.out; have := M7.out; have := M8.out; omega)).mono ?_
    rintro e w9 ⟨v1, he, hV, hb⟩
    subst he
    have N' := Lib.hid (N.out.up hb)
    clear N
    have N := N'
    clear N'
    have D' := Lib.hid (D.out.up hb)
    clear D
    have D := D'
    clear D'
    have C' := Lib.hid (C.out.up hb)
    clear C
    have C := C'
    clear C'
    have Q' := Lib.hid (Q.out.up hb)
    clear Q
    have Q := Q'
    clear Q'
    have R' := Lib.hid (R.out.up hb)
    clear R
    have R := R'
    clear R'
    have P' := Lib.hid (P.out.up hb)
    clear P
    have P := P'
    clear P'
    have S' := Lib.hid (S.out.up hb)
    clear S
    have S := S'
    clear S'
    have X' := Lib.hid (X.out.up hb)
    clear X
    have X := X'
    clear X'
    have Y' := Lib.hid (Y.out.up hb)
    clear Y
    have Y := Y'
    clear Y'
    have Mo' := Lib.hid (Mo.out.up hb)
    clear Mo
    have Mo := Mo'
    clear Mo'
    have Tt' := Lib.hid (Tt.out.up hb)
    clear Tt
    have Tt := Tt'
    clear Tt'
    have U' := Lib.hid (U.out.up hb)
    clear U
    have U := U'
    clear U'
    have HB' := Lib.hid (HB.out.trans (hb.mono HB.out.size))
    clear HB
    have HB := HB'
    clear HB'
    clear hb
    have V := Lib.hid hV
    clear hV
    go_wp2_with fail
    by_cases hlt : n % d + c % d < d
    · have k2 : cmpI (n % d + c % d) d = -1 := cmpI_lt hlt
      have K2 := Lib.hid k2
      clear k2
      obtain ⟨c1, c2⟩ := div_carry HP.out hlt
      rw [c1] at Tt
      rw [c2] at U
      clear c1 c2 hlt
      refine ((K2.out ▸ nCmp V.out D.out (by have := MN.out; have := MD.out; have := MC.out; have := M1.out; have := M2.out; have := M3.out; have := M4.out; have := M5.out; have := M6.out; have := M7.out; have := M8.out; omega) (by have := MN.out; have := MD.out; have := MC.out; have := M1.out; have := M2.out; have := M3.out; have := M4.out; have := M5.out; have := M6.out; have := M7.out; have := M8.out; omega) : Calls _ _ _ _ (fun e w' => e = .returned (.tuple #[.int .i64 (-1), .int .i64 0]) ∧ Below _ _ w'))).mono ?_
      rintro e w10 ⟨he, hb⟩
      subst he
      have N' := Lib.hid (N.out.up hb)
      clear N
      have N := N'
      clear N'
      have D' := Lib.hid (D.out.up hb)
      clear D
      have D := D'
      clear D'
      have C' := Lib.hid (C.out.up hb)
      clear C
      have C := C'
      clear C'
      have Q' := Lib.hid (Q.out.up hb)
      clear Q
      have Q := Q'
      clear Q'
      have R' := Lib.hid (R.out.up hb)
      clear R
      have R := R'
      clear R'
      have P' := Lib.hid (P.out.up hb)
      clear P
      have P := P'
      clear P'
      have S' := Lib.hid (S.out.up hb)
      clear S
      have S := S'
      clear S'
      have X' := Lib.hid (X.out.up hb)
      clear X
      have X := X'
      clear X'
      have Y' := Lib.hid (Y.out.up hb)
      clear Y
      have Y := Y'
      clear Y'
      have Mo' := Lib.hid (Mo.out.up hb)
      clear Mo
      have Mo := Mo'
      clear Mo'
      have Tt' := Lib.hid (Tt.out.up hb)
      clear Tt
      have Tt := Tt'
      clear Tt'
      have U' := Lib.hid (U.out.up hb)
      clear U
      have U := U'
      clear U'
      have V' := Lib.hid (V.out.up hb)
      clear V
      have V := V'
      clear V'
      have HB' := Lib.hid (HB.out.trans (hb.mono HB.out.size))
      clear HB
      have HB := HB'
      clear HB'
      clear hb
      go_wp2_with fail
      refine (aw_same _ _ _ _ Tt.out Q.out).mono ?_
      rintro e w11 ⟨he, hb⟩
      subst he
      have N' := Lib.hid (N.out.up hb)
      clear N
      have N := N'
      clear N'
      have D' := Lib.hid (D.out.up hb)
      clear D
      have D := D'
      clear D'
      have C' := Lib.hid (C.out.up hb)
      clear C
      have C := C'
      clear C'
      have Q' := Lib.hid (Q.out.up hb)
      clear Q
      have Q := Q'
      clear Q'
      have R' := Lib.hid (R.out.up hb)
      clear R
      have R := R'
      clear R'
      have P' := Lib.hid (P.out.up hb)
      clear P
      have P := P'
      clear P'
      have S' := Lib.hid (S.out.up hb)
      clear S
      have S := S'
      clear S'
      have X' := Lib.hid (X.out.up hb)
      clear X
      have X := X'
      clear X'
      have Y' := Lib.hid (Y.out.up hb)
      clear Y
      have Y := Y'
      clear Y'
      have Mo' := Lib.hid (Mo.out.up hb)
      clear Mo
      have Mo := Mo'
      clear Mo'
      have Tt' := Lib.hid (Tt.out.up hb)
      clear Tt
      have Tt := Tt'
      clear Tt'
      have U' := Lib.hid (U.out.up hb)
      clear U
      have U := U'
      clear U'
      have V' := Lib.hid (V.out.up hb)
      clear V
      have V := V'
      clear V'
      have HB' := Lib.hid (HB.out.trans (hb.mono HB.out.size))
      clear HB
      have HB := HB'
      clear HB'
      clear hb
      go_wp2_with fail
      refine (aw_same _ _ _ _ U.out V.out).mono ?_
      rintro e w12 ⟨he, hb⟩
      subst he
      have N' := Lib.hid (N.out.up hb)
      clear N
      have N := N'
      clear N'
      have D' := Lib.hid (D.out.up hb)
      clear D
      have D := D'
      clear D'
      have C' := Lib.hid (C.out.up hb)
      clear C
      have C := C'
      clear C'
      have Q' := Lib.hid (Q.out.up hb)
      clear Q
      have Q := Q'
      clear Q'
      have R' := Lib.hid (R.out.up hb)
      clear R
      have R := R'
      clear R'
      have P' := Lib.hid (P.out.up hb)
      clear P
      have P := P'
      clear P'
      have S' := Lib.hid (S.out.up hb)
      clear S
      have S := S'
      clear S'
      have X' := Lib.hid (X.out.up hb)
      clear X
      have X := X'
      clear X'
      have Y' := Lib.hid (Y.out.up hb)
      clear Y
      have Y := Y'
      clear Y'
      have Mo' := Lib.hid (Mo.out.up hb)
      clear Mo
      have Mo := Mo'
      clear Mo'
      have Tt' := Lib.hid (Tt.out.up hb)
      clear Tt
      have Tt := Tt'
      clear Tt'
      have U' := Lib.hid (U.out.up hb)
      clear U
      have U := U'
      clear U'
      have V' := Lib.hid (V.out.up hb)
      clear V
      have V := V'
      clear V'
      have HB' := Lib.hid (HB.out.trans (hb.mono HB.out.size))
      clear HB
      have HB := HB'
      clear HB'
      clear hb
      go_wp2_with fail
      go_ret
      exact ⟨rfl, HB.out⟩
    · have hge : d ≤ n % d + c % d := by omega
      obtain ⟨kk, hk, hk0⟩ : ∃ kk : Int, cmpI (n % d + c % d) d = kk ∧ 0 ≤ kk := by
        rcases Nat.lt_or_ge d (n % d + c % d) with h2 | h2
        · exact ⟨1, cmpI_gt h2, by omega⟩
        · exact ⟨0, cmpI_eq (by omega), by omega⟩
      have K2 := Lib.hid hk
      clear hk
      obtain ⟨c1, c2⟩ := div_carry1 HP.out (Nat.mod_lt _ HP.out) hge
      rw [c1] at Tt
      rw [c2] at U
      have HG := Lib.hid hge
      clear c1 c2 hlt hge
      refine ((K2.out ▸ nCmp V.out D.out (by have := MN.out; have := MD.out; have := MC.out; have := M1.out; have := M2.out; have := M3.out; have := M4.out; have := M5.out; have := M6.out; have := M7.out; have := M8.out; omega) (by have := MN.out; have := MD.out; have := MC.out; have := M1.out; have := M2.out; have := M3.out; have := M4.out; have := M5.out; have := M6.out; have := M7.out; have := M8.out; omega) : Calls _ _ _ _ (fun e w' => e = .returned (.tuple #[.int .i64 kk, .int .i64 0]) ∧ Below _ _ w'))).mono ?_
      rintro e w10 ⟨he, hb⟩
      subst he
      have N' := Lib.hid (N.out.up hb)
      clear N
      have N := N'
      clear N'
      have D' := Lib.hid (D.out.up hb)
      clear D
      have D := D'
      clear D'
      have C' := Lib.hid (C.out.up hb)
      clear C
      have C := C'
      clear C'
      have Q' := Lib.hid (Q.out.up hb)
      clear Q
      have Q := Q'
      clear Q'
      have R' := Lib.hid (R.out.up hb)
      clear R
      have R := R'
      clear R'
      have P' := Lib.hid (P.out.up hb)
      clear P
      have P := P'
      clear P'
      have S' := Lib.hid (S.out.up hb)
      clear S
      have S := S'
      clear S'
      have X' := Lib.hid (X.out.up hb)
      clear X
      have X := X'
      clear X'
      have Y' := Lib.hid (Y.out.up hb)
      clear Y
      have Y := Y'
      clear Y'
      have Mo' := Lib.hid (Mo.out.up hb)
      clear Mo
      have Mo := Mo'
      clear Mo'
      have Tt' := Lib.hid (Tt.out.up hb)
      clear Tt
      have Tt := Tt'
      clear Tt'
      have U' := Lib.hid (U.out.up hb)
      clear U
      have U := U'
      clear U'
      have V' := Lib.hid (V.out.up hb)
      clear V
      have V := V'
      clear V'
      have HB' := Lib.hid (HB.out.trans (hb.mono HB.out.size))
      clear HB
      have HB := HB'
      clear HB'
      clear hb
      go_wp2_with fail
      refine (nSub V.out D.out (by have := MN.out; have := MD.out; have := MC.out; have := M1.out; have := M2.out; have := M3.out; have := M4.out; have := M5.out; have := M6.out; have := M7.out; have := M8.out; omega) (by have := MN.out; have := MD.out; have := MC.out; have := M1.out; have := M2.out; have := M3.out; have := M4.out; have := M5.out; have := M6.out; have := M7.out; have := M8.out; omega) HG.out).mono ?_
      rintro e w11 ⟨v2, he, hV2, hb⟩
      subst he
      have N' := Lib.hid (N.out.up hb)
      clear N
      have N := N'
      clear N'
      have D' := Lib.hid (D.out.up hb)
      clear D
      have D := D'
      clear D'
      have C' := Lib.hid (C.out.up hb)
      clear C
      have C := C'
      clear C'
      have Q' := Lib.hid (Q.out.up hb)
      clear Q
      have Q := Q'
      clear Q'
      have R' := Lib.hid (R.out.up hb)
      clear R
      have R := R'
      clear R'
      have P' := Lib.hid (P.out.up hb)
      clear P
      have P := P'
      clear P'
      have S' := Lib.hid (S.out.up hb)
      clear S
      have S := S'
      clear S'
      have X' := Lib.hid (X.out.up hb)
      clear X
      have X := X'
      clear X'
      have Y' := Lib.hid (Y.out.up hb)
      clear Y
      have Y := Y'
      clear Y'
      have Mo' := Lib.hid (Mo.out.up hb)
      clear Mo
      have Mo := Mo'
      clear Mo'
      have Tt' := Lib.hid (Tt.out.up hb)
      clear Tt
      have Tt := Tt'
      clear Tt'
      have U' := Lib.hid (U.out.up hb)
      clear U
      have U := U'
      clear U'
      have V' := Lib.hid (V.out.up hb)
      clear V
      have V := V'
      clear V'
      have HB' := Lib.hid (HB.out.trans (hb.mono HB.out.size))
      clear HB
      have HB := HB'
      clear HB'
      clear hb
      have V2 := Lib.hid hV2
      clear hV2
      go_wp2_with fail
      refine (nOne _).mono ?_
      rintro e w12 ⟨o1, he, hO, hb⟩
      subst he
      have N' := Lib.hid (N.out.up hb)
      clear N
      have N := N'
      clear N'
      have D' := Lib.hid (D.out.up hb)
      clear D
      have D := D'
      clear D'
      have C' := Lib.hid (C.out.up hb)
      clear C
      have C := C'
      clear C'
      have Q' := Lib.hid (Q.out.up hb)
      clear Q
      have Q := Q'
      clear Q'
      have R' := Lib.hid (R.out.up hb)
      clear R
      have R := R'
      clear R'
      have P' := Lib.hid (P.out.up hb)
      clear P
      have P := P'
      clear P'
      have S' := Lib.hid (S.out.up hb)
      clear S
      have S := S'
      clear S'
      have X' := Lib.hid (X.out.up hb)
      clear X
      have X := X'
      clear X'
      have Y' := Lib.hid (Y.out.up hb)
      clear Y
      have Y := Y'
      clear Y'
      have Mo' := Lib.hid (Mo.out.up hb)
      clear Mo
      have Mo := Mo'
      clear Mo'
      have Tt' := Lib.hid (Tt.out.up hb)
      clear Tt
      have Tt := Tt'
      clear Tt'
      have U' := Lib.hid (U.out.up hb)
      clear U
      have U := U'
      clear U'
      have V' := Lib.hid (V.out.up hb)
      clear V
      have V := V'
      clear V'
      have V2' := Lib.hid (V2.out.up hb)
      clear V2
      have V2 := V2'
      clear V2'
      have HB' := Lib.hid (HB.out.trans (hb.mono HB.out.size))
      clear HB
      have HB := HB'
      clear HB'
      clear hb
      have O := Lib.hid hO
      clear hO
      go_wp2_with fail
      refine (nAdd Q.out O.out (by have := MN.out; have := MD.out; have := MC.out; have := M1.out; have := M2.out; have := M3.out; have := M4.out; have := M5.out; have := M6.out; have := M7.out; have := M8.out; omega) (by have := MN.out; have := MD.out; have := MC.out; have := M1.out; have := M2.out; have := M3.out; have := M4.out; have := M5.out; have := M6.out; have := M7.out; have := M8.out; omega) (by have := MN.out; have := MD.out; have := MC.out; have := M1.out; have := M2.out; have := M3.out; have := M4.out; have := M5.out; have := M6.out; have := M7.out; have := M8.out; omega)).mono ?_
      rintro e w13 ⟨q3, he, hQ3, hb⟩
      subst he
      have N' := Lib.hid (N.out.up hb)
      clear N
      have N := N'
      clear N'
      have D' := Lib.hid (D.out.up hb)
      clear D
      have D := D'
      clear D'
      have C' := Lib.hid (C.out.up hb)
      clear C
      have C := C'
      clear C'
      have Q' := Lib.hid (Q.out.up hb)
      clear Q
      have Q := Q'
      clear Q'
      have R' := Lib.hid (R.out.up hb)
      clear R
      have R := R'
      clear R'
      have P' := Lib.hid (P.out.up hb)
      clear P
      have P := P'
      clear P'
      have S' := Lib.hid (S.out.up hb)
      clear S
      have S := S'
      clear S'
      have X' := Lib.hid (X.out.up hb)
      clear X
      have X := X'
      clear X'
      have Y' := Lib.hid (Y.out.up hb)
      clear Y
      have Y := Y'
      clear Y'
      have Mo' := Lib.hid (Mo.out.up hb)
      clear Mo
      have Mo := Mo'
      clear Mo'
      have Tt' := Lib.hid (Tt.out.up hb)
      clear Tt
      have Tt := Tt'
      clear Tt'
      have U' := Lib.hid (U.out.up hb)
      clear U
      have U := U'
      clear U'
      have V' := Lib.hid (V.out.up hb)
      clear V
      have V := V'
      clear V'
      have V2' := Lib.hid (V2.out.up hb)
      clear V2
      have V2 := V2'
      clear V2'
      have O' := Lib.hid (O.out.up hb)
      clear O
      have O := O'
      clear O'
      have HB' := Lib.hid (HB.out.trans (hb.mono HB.out.size))
      clear HB
      have HB := HB'
      clear HB'
      clear hb
      have Q3 := Lib.hid hQ3
      clear hQ3
      go_wp2_with fail
      refine (aw_same _ _ _ _ Tt.out Q3.out).mono ?_
      rintro e w14 ⟨he, hb⟩
      subst he
      have N' := Lib.hid (N.out.up hb)
      clear N
      have N := N'
      clear N'
      have D' := Lib.hid (D.out.up hb)
      clear D
      have D := D'
      clear D'
      have C' := Lib.hid (C.out.up hb)
      clear C
      have C := C'
      clear C'
      have Q' := Lib.hid (Q.out.up hb)
      clear Q
      have Q := Q'
      clear Q'
      have R' := Lib.hid (R.out.up hb)
      clear R
      have R := R'
      clear R'
      have P' := Lib.hid (P.out.up hb)
      clear P
      have P := P'
      clear P'
      have S' := Lib.hid (S.out.up hb)
      clear S
      have S := S'
      clear S'
      have X' := Lib.hid (X.out.up hb)
      clear X
      have X := X'
      clear X'
      have Y' := Lib.hid (Y.out.up hb)
      clear Y
      have Y := Y'
      clear Y'
      have Mo' := Lib.hid (Mo.out.up hb)
      clear Mo
      have Mo := Mo'
      clear Mo'
      have Tt' := Lib.hid (Tt.out.up hb)
      clear Tt
      have Tt := Tt'
      clear Tt'
      have U' := Lib.hid (U.out.up hb)
      clear U
      have U := U'
      clear U'
      have V' := Lib.hid (V.out.up hb)
      clear V
      have V := V'
      clear V'
      have V2' := Lib.hid (V2.out.up hb)
      clear V2
      have V2 := V2'
      clear V2'
      have O' := Lib.hid (O.out.up hb)
      clear O
      have O := O'
      clear O'
      have Q3' := Lib.hid (Q3.out.up hb)
      clear Q3
      have Q3 := Q3'
      clear Q3'
      have HB' := Lib.hid (HB.out.trans (hb.mono HB.out.size))
      clear HB
      have HB := HB'
      clear HB'
      clear hb
      go_wp2_with fail
      refine (aw_same _ _ _ _ U.out V2.out).mono ?_
      rintro e w15 ⟨he, hb⟩
      subst he
      have N' := Lib.hid (N.out.up hb)
      clear N
      have N := N'
      clear N'
      have D' := Lib.hid (D.out.up hb)
      clear D
      have D := D'
      clear D'
      have C' := Lib.hid (C.out.up hb)
      clear C
      have C := C'
      clear C'
      have Q' := Lib.hid (Q.out.up hb)
      clear Q
      have Q := Q'
      clear Q'
      have R' := Lib.hid (R.out.up hb)
      clear R
      have R := R'
      clear R'
      have P' := Lib.hid (P.out.up hb)
      clear P
      have P := P'
      clear P'
      have S' := Lib.hid (S.out.up hb)
      clear S
      have S := S'
      clear S'
      have X' := Lib.hid (X.out.up hb)
      clear X
      have X := X'
      clear X'
      have Y' := Lib.hid (Y.out.up hb)
      clear Y
      have Y := Y'
      clear Y'
      have Mo' := Lib.hid (Mo.out.up hb)
      clear Mo
      have Mo := Mo'
      clear Mo'
      have Tt' := Lib.hid (Tt.out.up hb)
      clear Tt
      have Tt := Tt'
      clear Tt'
      have U' := Lib.hid (U.out.up hb)
      clear U
      have U := U'
      clear U'
      have V' := Lib.hid (V.out.up hb)
      clear V
      have V := V'
      clear V'
      have V2' := Lib.hid (V2.out.up hb)
      clear V2
      have V2 := V2'
      clear V2'
      have O' := Lib.hid (O.out.up hb)
      clear O
      have O := O'
      clear O'
      have Q3' := Lib.hid (Q3.out.up hb)
      clear Q3
      have Q3 := Q3'
      clear Q3'
      have HB' := Lib.hid (HB.out.trans (hb.mono HB.out.size))
      clear HB
      have HB := HB'
      clear HB'
      clear hb
      go_wp2_with fail
      go_ret
      exact ⟨rfl, HB.out⟩
end Go.Proofs.YtlababdfdjjjaaaGreatDoor
