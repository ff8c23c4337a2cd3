import Derived.Test.YtlababdfdjjjaaaGreatDoorB2
import Derived.Test.YtlababdfdjjjaaaGreatDoorPR
namespace Go.Proofs.YtlababdfdjjjaaaGreatDoor
open Go.RowKit

theorem dec_head {n : Nat} (h : n ≠ 0) : ∃ c r, Lib.decDigits n = c :: r ∧ c ≠ 48 := by
  induction n using Nat.strongRecOn with
  | _ n ih =>
    by_cases h1 : n < 10
    · refine ⟨UInt8.ofNat (48 + n), [], dec_small h1, fun e => ?_⟩
      have := (digit_of n h1).2
      rw [e] at this
      have h48 : (48 : UInt8).toNat = 48 := rfl
      omega
    · obtain ⟨c, r, hc, hne⟩ := ih (n / 10) (by omega) (by omega)
      exact ⟨c, r ++ [UInt8.ofNat (48 + n % 10)], by rw [dec_big h1, hc]; rfl, hne⟩
theorem dec_fits {n K : Nat} (hK : 1 ≤ K) (h : (dg n).length ≤ K) : (Lib.decDigits n).length ≤ 10 * K := by
  have h3 : n < LB ^ K := dg_le.1 h
  have h4 : LB ^ K ≤ 10 ^ (10 * K) := by
    rw [Nat.pow_mul]
    exact Nat.pow_le_pow_left (by rw [LB_eq]; decide) K
  exact dec_len (by omega) (Nat.lt_of_lt_of_le h3 h4)
theorem parse_dec {n : Nat} (h : (dg n).length ≤ 60) : parseW (Lib.decDigits n) = (n, 0) := by
  obtain ⟨h1, h2⟩ := dec_all n
  have h5 := dec_fits (by omega) h
  have h6 : ¬ (Lib.decDigits n = [] ∨ (1 < (Lib.decDigits n).length ∧ (Lib.decDigits n).head? = some 48)) := by
    rintro (h | ⟨h, h'⟩)
    · exact dec_ne n h
    · by_cases h0 : n = 0
      · subst h0
        rw [dec_small (by omega)] at h
        simp at h
      · obtain ⟨c, r, hc, hne⟩ := dec_head h0
        rw [hc] at h'
        simp at h'
        exact hne h'
  rw [parseW_yes (by omega) h6 h1, h2]
theorem nText {va : Value} {m : Nat} {W : World} (ha : Arg W va (dg m)) (h1 : (dg m).length ≤ 512) (hT : Tabs W) (s : ByteArray) (hs : s.data.toList = Lib.decDigits m) :
    Calls Tryz.prog 23 #[va] W fun e w' => e = .returned (.tuple #[.string s, .int .i64 0]) ∧ Below W.heap.size W w' := by
  have h := Text_any va (dg m) W ha hT
  have e : textW (dg m) = (Lib.decDigits m, 0) := by unfold textW; rw [if_pos (exam_dg1 h1), val_dg]
  rw [e] at h
  have e2 : (⟨(Lib.decDigits m).toArray⟩ : ByteArray) = s := by rw [← hs]
  rw [e2] at h
  exact h
theorem nParse {m : Nat} {W : World} (h1 : (dg m).length ≤ 60) (hT : TabsE W) (s : ByteArray) (hs : s.data.toList = Lib.decDigits m) (hm : s.size ≤ maxLen) :
    Calls Tryz.prog 25 #[.string s] W fun e w' => ∃ v, e = .returned (.tuple #[v, .int .i64 0]) ∧ Arg w' v (dg m) ∧ Below W.heap.size W w' := by
  have h := Parse_any s W hm hT
  rw [hs, parse_dec h1] at h
  refine h.mono ?_
  rintro e w' ⟨v, he, hn, hb⟩
  exact ⟨v, he, num_arg hn _ rfl (by show (dg m).length ≤ 1000; omega), hb⟩
theorem nGcdS {va vb : Value} {m n : Nat} {W : World} (ha : Arg W va (dg m)) (hb : Arg W vb (dg n)) (h1 : (dg m).length ≤ 512) (h2 : (dg n).length ≤ 512) (g : Nat) (hg : Nat.gcd m n = g) (k : Nat) (hk : (dg g).length = k) :
    Calls Tryz.prog 42 #[va, vb] W fun e w' => ∃ A c, e = .returned (.tuple #[.slice A k c, .int .i64 0]) ∧ Arg w' (.slice A k c) (dg g) ∧ Below W.heap.size W w' := by
  subst hg hk
  refine (nGcd ha hb h1 h2).mono ?_
  rintro e w' ⟨v, he, hn, hb⟩
  obtain ⟨A, c, rfl, -⟩ := hn.1.form
  exact ⟨A, c, he, hn, hb⟩
theorem nDivX {va vb : Value} {m n : Nat} {W : World} (ha : Arg W va (dg m)) (hb : Arg W vb (dg n)) (h1 : (dg m).length ≤ 512) (h2 : (dg n).length ≤ 512) (h3 : n ≠ 0) (hd : n ∣ m) :
    Calls Tryz.prog 40 #[va, vb] W fun e w' => ∃ q A c, e = .returned (.tuple #[q, .slice A 0 c, .int .i64 0]) ∧ Arg w' q (dg (m / n)) ∧ Below W.heap.size W w' := by
  refine (nDiv ha hb h1 h2 h3).mono ?_
  rintro e w' ⟨q, r, he, hq, hr, hb⟩
  rw [Nat.mod_eq_zero_of_dvd hd, dg_zero] at hr
  obtain ⟨A, c, rfl, -⟩ := hr.1.form
  exact ⟨q, A, c, he, hq, hb⟩

set_option maxRecDepth 100000 in
set_option maxHeartbeats 16000000 in
theorem lawWideCommon_any (A B : Option Addr) (n1 ca n2 cb a b : Nat) (w : World) (hE : TabsE w) (fa : ValOk w A n1 ca a) (fb : ValOk w B n2 cb b) :
    Calls Tryz.prog 13 #[.slice A n1 ca, .slice B n2 cb] w fun e w' => e = .returned (.bool true) ∧ Below w.heap.size w w' := by
  have hT := hE.toTabs
  have HE := Lib.hid hE
  have HT := Lib.hid hT
  have HB := Lib.hid (Below.refl w.heap.size w)
  obtain ⟨b1, hf1, hg1⟩ := fa
  obtain ⟨b2, hf2, hg2⟩ := fb
  have F1 := Lib.hid hf1
  have F2 := Lib.hid hf2
  have G1 := Lib.hid hg1
  have G2 := Lib.hid hg2
  clear hf1 hf2 hg1 hg2 hT hE
  cases b1
  · clear F2 G1 G2 HE
    go_enter Tryz.func13, Tryz.ntmps13
    go_wp2_with fail
    refine (F1.out _ HB.out).mono ?_
    rintro e w1 ⟨he, hb⟩
    subst he
    have HB' := Lib.hid (HB.out.trans (hb.mono HB.out.size))
    clear HB
    have HB := HB'
    clear HB'
    clear hb
    go_wp2_with fail
    refine (awake_any _ (HT.out.below HB.out)).mono ?_
    rintro e w2 ⟨he, hb⟩
    subst he
    go_wp2_with fail
    go_ret
    exact ⟨rfl, HB.out.trans (hb.mono HB.out.size)⟩
  cases b2
  · clear G1 G2 HE
    go_enter Tryz.func13, Tryz.ntmps13
    go_wp2_with fail
    refine (F1.out _ HB.out).mono ?_
    rintro e w1 ⟨he, hb⟩
    subst he
    have HB' := Lib.hid (HB.out.trans (hb.mono HB.out.size))
    clear HB
    have HB := HB'
    clear HB'
    clear hb
    go_wp2_with fail
    refine (F2.out _ HB.out).mono ?_
    rintro e w2 ⟨he, hb⟩
    subst he
    have HB' := Lib.hid (HB.out.trans (hb.mono HB.out.size))
    clear HB
    have HB := HB'
    clear HB'
    clear hb
    go_wp2_with fail
    refine (awake_any _ (HT.out.below HB.out)).mono ?_
    rintro e w3 ⟨he, hb⟩
    subst he
    go_wp2_with fail
    go_ret
    exact ⟨rfl, HB.out.trans (hb.mono HB.out.size)⟩
  obtain ⟨ha, hn1, hl1⟩ := G1.out (by trivial)
  obtain ⟨hb, hn2, hl2⟩ := G2.out (by trivial)
  clear G1 G2
  by_cases t1 : (60 : Int) < (n1 : Int)
  · clear ha hb hn1 hn2 HE
    go_enter Tryz.func13, Tryz.ntmps13
    go_wp2_with fail
    refine (F1.out _ HB.out).mono ?_
    rintro e w1 ⟨he, hb⟩
    subst he
    have HB' := Lib.hid (HB.out.trans (hb.mono HB.out.size))
    clear HB
    have HB := HB'
    clear HB'
    clear hb
    go_wp2_with fail
    refine (F2.out _ HB.out).mono ?_
    rintro e w2 ⟨he, hb⟩
    subst he
    have HB' := Lib.hid (HB.out.trans (hb.mono HB.out.size))
    clear HB
    have HB := HB'
    clear HB'
    clear hb
    go_wp2_with fail
    refine (awake_any _ (HT.out.below HB.out)).mono ?_
    rintro e w3 ⟨he, hb⟩
    subst he
    go_wp2_with fail
    go_ret
    exact ⟨rfl, HB.out.trans (hb.mono HB.out.size)⟩
  by_cases t2 : (60 : Int) < (n2 : Int)
  · clear ha hb hn1 hn2 HE
    go_enter Tryz.func13, Tryz.ntmps13
    go_wp2_with fail
    refine (F1.out _ HB.out).mono ?_
    rintro e w1 ⟨he, hb⟩
    subst he
    have HB' := Lib.hid (HB.out.trans (hb.mono HB.out.size))
    clear HB
    have HB := HB'
    clear HB'
    clear hb
    go_wp2_with fail
    refine (F2.out _ HB.out).mono ?_
    rintro e w2 ⟨he, hb⟩
    subst he
    have HB' := Lib.hid (HB.out.trans (hb.mono HB.out.size))
    clear HB
    have HB := HB'
    clear HB'
    clear hb
    go_wp2_with fail
    refine (awake_any _ (HT.out.below HB.out)).mono ?_
    rintro e w3 ⟨he, hb⟩
    subst he
    go_wp2_with fail
    go_ret
    exact ⟨rfl, HB.out.trans (hb.mono HB.out.size)⟩
  have m1 : (dg a).length ≤ 60 := by omega
  have m2 : (dg b).length ≤ 60 := by omega
  obtain ⟨s, hs⟩ : ∃ s : ByteArray, s = ⟨(Lib.decDigits a).toArray⟩ := ⟨_, rfl⟩
  have hsl : s.data.toList = Lib.decDigits a := by rw [hs]
  have hsm : s.size ≤ maxLen := by
    have h5 := dec_fits (by omega) m1
    rw [← bl_len, hsl]; unfold maxLen; omega
  clear hs
  obtain ⟨gg, hgg⟩ : ∃ gg, Nat.gcd a b = gg := ⟨_, rfl⟩
  obtain ⟨kk, hkk⟩ : ∃ kk, (dg gg).length = kk := ⟨_, rfl⟩
  have X1 := Lib.hid m1
  have X2 := Lib.hid m2
  have FA := Lib.hid ha
  have FB := Lib.hid hb
  have SL := Lib.hid hsl
  have SM := Lib.hid hsm
  have GG := Lib.hid hgg
  have KK := Lib.hid hkk
  by_cases hg0 : gg = 0
  · have hab := Nat.gcd_eq_zero_iff.1 (hgg.trans hg0)
    obtain ⟨ha0, hb0⟩ := hab
    have hk0 : kk = 0 := by rw [← hkk, hg0, dg_zero]; rfl
    have hn10 : n1 = 0 := by rw [hn1, ha0, dg_zero]; rfl
    have hn20 : n2 = 0 := by rw [hn2, hb0, dg_zero]; rfl
    clear ha hb hsl hsm hgg hkk m1 m2 hg0 hn1 hn2 ha0 hb0 hl1 hl2
    subst hk0 hn10 hn20
    clear t1 t2
    go_enter Tryz.func13, Tryz.ntmps13
    go_wp2_with fail
    refine (F1.out _ HB.out).mono ?_
    rintro e w1 ⟨he, hb⟩
    subst he
    have FA' := Lib.hid (FA.out.up hb)
    clear FA
    have FA := FA'
    clear FA'
    have FB' := Lib.hid (FB.out.up hb)
    clear FB
    have FB := FB'
    clear FB'
    have HB' := Lib.hid (HB.out.trans (hb.mono HB.out.size))
    clear HB
    have HB := HB'
    clear HB'
    clear hb
    go_wp2_with fail
    refine (F2.out _ HB.out).mono ?_
    rintro e w2 ⟨he, hb⟩
    subst he
    have FA' := Lib.hid (FA.out.up hb)
    clear FA
    have FA := FA'
    clear FA'
    have FB' := Lib.hid (FB.out.up hb)
    clear FB
    have FB := FB'
    clear FB'
    have HB' := Lib.hid (HB.out.trans (hb.mono HB.out.size))
    clear HB
    have HB := HB'
    clear HB'
    clear hb
    go_wp2_with fail
    refine (nText FA.out (by have := X1.out; have := X2.out; omega) (HT.out.below HB.out) s SL.out).mono ?_
    rintro e w3 ⟨he, hb⟩
    subst he
    have FA' := Lib.hid (FA.out.up hb)
    clear FA
    have FA := FA'
    clear FA'
    have FB' := Lib.hid (FB.out.up hb)
    clear FB
    have FB := FB'
    clear FB'
    have HB' := Lib.hid (HB.out.trans (hb.mono HB.out.size))
    clear HB
    have HB := HB'
    clear HB'
    clear hb
    go_wp2_with fail
    refine (nParse (by have := X1.out; have := X2.out; omega) (HE.out.below HB.out) s SL.out SM.out).mono ?_
    rintro e w4 ⟨bk, he, hBk, hb⟩
    subst he
    have FA' := Lib.hid (FA.out.up hb)
    clear FA
    have FA := FA'
    clear FA'
    have FB' := Lib.hid (FB.out.up hb)
    clear FB
    have FB := FB'
    clear FB'
    have HB' := Lib.hid (HB.out.trans (hb.mono HB.out.size))
    clear HB
    have HB := HB'
    clear HB'
    clear hb
    have Bk := Lib.hid hBk
    clear hBk
    go_wp2_with fail
    refine (nGcdS FA.out FB.out (by have := X1.out; have := X2.out; omega) (by have := X1.out; have := X2.out; omega) gg GG.out 0 KK.out).mono ?_
    rintro e w5 ⟨Ag, cg, he, hGv, hb⟩
    subst he
    have FA' := Lib.hid (FA.out.up hb)
    clear FA
    have FA := FA'
    clear FA'
    have FB' := Lib.hid (FB.out.up hb)
    clear FB
    have FB := FB'
    clear FB'
    have Bk' := Lib.hid (Bk.out.up hb)
    clear Bk
    have Bk := Bk'
    clear Bk'
    have HB' := Lib.hid (HB.out.trans (hb.mono HB.out.size))
    clear HB
    have HB := HB'
    clear HB'
    clear hb
    have Gv := Lib.hid hGv
    clear hGv
    go_wp2_with fail
    refine (aw_same _ _ _ _ Bk.out FA.out).mono ?_
    rintro e w6 ⟨he, hb⟩
    subst he
    have FA' := Lib.hid (FA.out.up hb)
    clear FA
    have FA := FA'
    clear FA'
    have FB' := Lib.hid (FB.out.up hb)
    clear FB
    have FB := FB'
    clear FB'
    have Bk' := Lib.hid (Bk.out.up hb)
    clear Bk
    have Bk := Bk'
    clear Bk'
    have Gv' := Lib.hid (Gv.out.up hb)
    clear Gv
    have Gv := Gv'
    clear Gv'
    have HB' := Lib.hid (HB.out.trans (hb.mono HB.out.size))
    clear HB
    have HB := HB'
    clear HB'
    clear hb
    go_wp2_with fail
    refine (awake_any _ (HT.out.below HB.out)).mono ?_
    rintro e w7 ⟨he, hb⟩
    subst he
    go_wp2_with fail
    go_ret
    exact ⟨rfl, HB.out.trans (hb.mono HB.out.size)⟩
  · have hk0 : ((kk : Int) == 0) = false := by
      have : kk ≠ 0 := fun e => hg0 (dg_zero_iff.1 (hkk.trans e))
      exact beq_false_of_ne (by omega)
    have hd1 : gg ∣ a := hgg ▸ Nat.gcd_dvd_left a b
    have hd2 : gg ∣ b := hgg ▸ Nat.gcd_dvd_right a b
    have hone : Nat.gcd (a / gg) (b / gg) = 1 := by rw [Nat.gcd_div hd1 hd2, hgg, Nat.div_self (by omega)]
    have hgl : (dg gg).length ≤ 512 := by
      rcases Nat.eq_zero_or_pos a with h0 | h0
      · have e : gg = b := by rw [← hgg, h0, Nat.gcd_zero_left]
        rw [e]; omega
      · exact Nat.le_trans (dg_mono (Nat.le_of_dvd h0 hd1)) (by omega)
    have hxl : (dg (a / gg)).length ≤ 512 := Nat.le_trans (dg_mono (Nat.div_le_self _ _)) (by omega)
    have hyl : (dg (b / gg)).length ≤ 512 := Nat.le_trans (dg_mono (Nat.div_le_self _ _)) (by omega)
    have D1 := Lib.hid hd1
    have D2 := Lib.hid hd2
    have ONE := Lib.hid hone
    have GL := Lib.hid hgl
    have XL := Lib.hid hxl
    have YL := Lib.hid hyl
    have GZ := Lib.hid hg0
    clear ha hb hsl hsm hgg hkk m1 m2 hg0 hn1 hn2 hl1 hl2 hd1 hd2 hone hgl hxl hyl
    go_enter Tryz.func13, Tryz.ntmps13
    go_wp2_with fail
    refine (F1.out _ HB.out).mono ?_
    rintro e w1 ⟨he, hb⟩
    subst he
    have FA' := Lib.hid (FA.out.up hb)
    clear FA
    have FA := FA'
    clear FA'
    have FB' := Lib.hid (FB.out.up hb)
    clear FB
    have FB := FB'
    clear FB'
    have HB' := Lib.hid (HB.out.trans (hb.mono HB.out.size))
    clear HB
    have HB := HB'
    clear HB'
    clear hb
    go_wp2_with fail
    refine (F2.out _ HB.out).mono ?_
    rintro e w2 ⟨he, hb⟩
    subst he
    have FA' := Lib.hid (FA.out.up hb)
    clear FA
    have FA := FA'
    clear FA'
    have FB' := Lib.hid (FB.out.up hb)
    clear FB
    have FB := FB'
    clear FB'
    have HB' := Lib.hid (HB.out.trans (hb.mono HB.out.size))
    clear HB
    have HB := HB'
    clear HB'
    clear hb
    go_wp2_with fail
    refine (nText FA.out (by have := X1.out; have := X2.out; omega) (HT.out.below HB.out) s SL.out).mono ?_
    rintro e w3 ⟨he, hb⟩
    subst he
    have FA' := Lib.hid (FA.out.up hb)
    clear FA
    have FA := FA'
    clear FA'
    have FB' := Lib.hid (FB.out.up hb)
    clear FB
    have FB := FB'
    clear FB'
    have HB' := Lib.hid (HB.out.trans (hb.mono HB.out.size))
    clear HB
    have HB := HB'
    clear HB'
    clear hb
    go_wp2_with fail
    refine (nParse (by have := X1.out; have := X2.out; omega) (HE.out.below HB.out) s SL.out SM.out).mono ?_
    rintro e w4 ⟨bk, he, hBk, hb⟩
    subst he
    have FA' := Lib.hid (FA.out.up hb)
    clear FA
    have FA := FA'
    clear FA'
    have FB' := Lib.hid (FB.out.up hb)
    clear FB
    have FB := FB'
    clear FB'
    have HB' := Lib.hid (HB.out.trans (hb.mono HB.out.size))
    clear HB
    have HB := HB'
    clear HB'
    clear hb
    have Bk := Lib.hid hBk
    clear hBk
    go_wp2_with fail
    refine (nGcdS FA.out FB.out (by have := X1.out; have := X2.out; omega) (by have := X1.out; have := X2.out; omega) gg GG.out kk KK.out).mono ?_
    rintro e w5 ⟨Ag, cg, he, hGv, hb⟩
    subst he
    have FA' := Lib.hid (FA.out.up hb)
    clear FA
    have FA := FA'
    clear FA'
    have FB' := Lib.hid (FB.out.up hb)
    clear FB
    have FB := FB'
    clear FB'
    have Bk' := Lib.hid (Bk.out.up hb)
    clear Bk
    have Bk := Bk'
    clear Bk'
    have HB' := Lib.hid (HB.out.trans (hb.mono HB.out.size))
    clear HB
    have HB := HB'
    clear HB'
    clear hb
    have Gv := Lib.hid hGv
    clear hGv
    go_wp2_with fail
    refine (aw_same _ _ _ _ Bk.out FA.out).mono ?_
    rintro e w6 ⟨he, hb⟩
    subst he
    have FA' := Lib.hid (FA.out.up hb)
    clear FA
    have FA := FA'
    clear FA'
    have FB' := Lib.hid (FB.out.up hb)
    clear FB
    have FB := FB'
    clear FB'
    have Bk' := Lib.hid (Bk.out.up hb)
    clear Bk
    have Bk := Bk'
    clear Bk'
    have Gv' := Lib.hid (Gv.out.up hb)
    clear Gv
    have Gv := Gv'
    clear Gv'
    have HB' := Lib.hid (HB.out.trans (hb.mono HB.out.size))
    clear HB
    have HB := HB'
    clear HB'
    clear hb
    go_wp2_with fail
    refine (nDivX FA.out Gv.out (by have := X1.out; have := X2.out; omega) GL.out GZ.out D1.out).mono ?_
    rintro e w7 ⟨x, Ar, cr, he, hX, hb⟩
    subst he
    have FA' := Lib.hid (FA.out.up hb)
    clear FA
    have FA := FA'
    clear FA'
    have FB' := Lib.hid (FB.out.up hb)
    clear FB
    have FB := FB'
    clear FB'
    have Bk' := Lib.hid (Bk.out.up hb)
    clear Bk
    have Bk := Bk'
    clear Bk'
    have Gv' := Lib.hid (Gv.out.up hb)
    clear Gv
    have Gv := Gv'
    clear Gv'
    have HB' := Lib.hid (HB.out.trans (hb.mono HB.out.size))
    clear HB
    have HB := HB'
    clear HB'
    clear hb
    have X := Lib.hid hX
    clear hX
    go_wp2_with fail
    refine (nDivX FB.out Gv.out (by have := X1.out; have := X2.out; omega) GL.out GZ.out D2.out).mono ?_
    rintro e w8 ⟨y, At, ct, he, hY, hb⟩
    subst he
    have FA' := Lib.hid (FA.out.up hb)
    clear FA
    have FA := FA'
    clear FA'
    have FB' := Lib.hid (FB.out.up hb)
    clear FB
    have FB := FB'
    clear FB'
    have Bk' := Lib.hid (Bk.out.up hb)
    clear Bk
    have Bk := Bk'
    clear Bk'
    have Gv' := Lib.hid (Gv.out.up hb)
    clear Gv
    have Gv := Gv'
    clear Gv'
    have X' := Lib.hid (X.out.up hb)
    clear X
    have X := X'
    clear X'
    have HB' := Lib.hid (HB.out.trans (hb.mono HB.out.size))
    clear HB
    have HB := HB'
    clear HB'
    clear hb
    have Y := Lib.hid hY
    clear hY
    go_wp2_with fail
    refine ((ONE.out ▸ nGcd X.out Y.out XL.out YL.out : Calls _ _ _ _ (fun e w' => ∃ v, e = .returned (.tuple #[v, .int .i64 0]) ∧ Arg w' v (dg 1) ∧ Below _ _ w'))).mono ?_
    rintro e w9 ⟨one, he, hO, hb⟩
    subst he
    have FA' := Lib.hid (FA.out.up hb)
    clear FA
    have FA := FA'
    clear FA'
    have FB' := Lib.hid (FB.out.up hb)
    clear FB
    have FB := FB'
    clear FB'
    have Bk' := Lib.hid (Bk.out.up hb)
    clear Bk
    have Bk := Bk'
    clear Bk'
    have Gv' := Lib.hid (Gv.out.up hb)
    clear Gv
    have Gv := Gv'
    clear Gv'
    have X' := Lib.hid (X.out.up hb)
    clear X
    have X := X'
    clear X'
    have Y' := Lib.hid (Y.out.up hb)
    clear Y
    have Y := Y'
    clear Y'
    have HB' := Lib.hid (HB.out.trans (hb.mono HB.out.size))
    clear HB
    have HB := HB'
    clear HB'
    clear hb
    have O := Lib.hid hO
    clear hO
    go_wp2_with fail
    rw [dg_one] at O
    refine (same_lit _ _ [1] O.out (by intro x hx; simp at hx; rw [hx, LB_eq]; omega) (by simp)).mono ?_
    rintro e w10 ⟨he, hb⟩
    subst he
    have FA' := Lib.hid (FA.out.up hb)
    clear FA
    have FA := FA'
    clear FA'
    have FB' := Lib.hid (FB.out.up hb)
    clear FB
    have FB := FB'
    clear FB'
    have Bk' := Lib.hid (Bk.out.up hb)
    clear Bk
    have Bk := Bk'
    clear Bk'
    have Gv' := Lib.hid (Gv.out.up hb)
    clear Gv
    have Gv := Gv'
    clear Gv'
    have X' := Lib.hid (X.out.up hb)
    clear X
    have X := X'
    clear X'
    have Y' := Lib.hid (Y.out.up hb)
    clear Y
    have Y := Y'
    clear Y'
    have O' := Lib.hid (O.out.up hb)
    clear O
    have O := O'
    clear O'
    have HB' := Lib.hid (HB.out.trans (hb.mono HB.out.size))
    clear HB
    have HB := HB'
    clear HB'
    clear hb
    go_wp2_with fail
    refine (awake_any _ (HT.out.below HB.out)).mono ?_
    rintro e w11 ⟨he, hb⟩
    subst he
    go_wp2_with fail
    go_ret
    exact ⟨rfl, HB.out.trans (hb.mono HB.out.size)⟩
end Go.Proofs.YtlababdfdjjjaaaGreatDoor
