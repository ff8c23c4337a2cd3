import Derived.Test.YtlababdfdjjjaaaGreatDoorRP
import Derived.Test.YtlababdfdjjjaaaGreatDoorShelfP
import Derived.Test.YtlababdfdjjjaaaGreatDoorT0
import Derived.Lib.AtoiErrMem
namespace Go.Proofs.YtlababdfdjjjaaaGreatDoor
open Go.RowKit

/-! The program's Parse. -/
theorem ext_front (s : ByteArray) (n : Nat) : (s.extract 0 n).data.toList = s.data.toList.take n := by
  rw [Lib.extract_data]; simp
theorem ext_back (s : ByteArray) (n : Nat) : (s.extract n s.size).data.toList = s.data.toList.drop n := by
  rw [Lib.extract_data, List.take_of_length_le]; simp
theorem pu_call (s : ByteArray) (u : Nat) (hs : s.size ≤ 100000) (h : Lib.parseUintB 32 s.data.toList = .ok u) (w : World) :
    Calls Tryz.prog 83 #[.string s, .int .i64 10, .int .i64 32] w fun e w' => e = .returned (.tuple #[.int .u64 (u : Int), .nilIface]) ∧ Below w.heap.size w w' :=
  (Tryz.strconv_ParseUint_10_at32_ok s (by omega) u h w).mono fun _ _ ⟨he, hw⟩ => ⟨he, by rcases hw with rfl | rfl; exact Below.refl _ _; exact Lib.bytesWorld_below _ _ _⟩
theorem pu_fail (s : ByteArray) (hs : s.size ≤ 100000) (h : Lib.parseUintB 32 s.data.toList = Lib.NumEnd.syntax) (w : World) (hE : TabsE w) :
    Calls Tryz.prog 83 #[.string s, .int .i64 10, .int .i64 32] w fun e w' => ∃ N, e = .returned (.tuple #[.int .u64 0, .iface 140 (.pointer (some ⟨N, 0, none⟩))]) ∧ Below w.heap.size w w' := by
  obtain ⟨te, pe, hc⟩ := hE.esyn
  exact (Tryz.strconv_ParseUint_10_at32_bad s (by omega) h te pe w hc).mono fun _ _ ⟨N, he, _, _, hb⟩ => ⟨N, he, hb⟩
theorem toL (s : ByteArray) : s.toList = s.data.toList := ByteArray.toList_eq s
theorem empty_yes (s : ByteArray) (h : s.size = 0) : s.toList = [] := by
  rw [toL]; apply List.eq_nil_of_length_eq_zero; rw [bl_len]; exact h
theorem isEmpty_yes (s : ByteArray) (h : s.size = 0) : s.toList.isEmpty = true := by rw [empty_yes s h]; rfl
theorem empty_no (s : ByteArray) (h : 0 < s.size) : ¬ s.toList = [] := by
  rw [toL]; intro e; have h1 := bl_len s
  rw [e] at h1; simp at h1; omega
theorem isEmpty_no (s : ByteArray) (h : 0 < s.size) : s.toList.isEmpty = false := by
  rw [List.isEmpty_eq_false_iff]; exact empty_no s h
theorem toList_beq (s : ByteArray) (x : List UInt8) : (s.toList == x) = decide (s.data.toList = x) := by rw [toL]; exact Bool.eq_iff_iff.2 (by simp)
def strLen : Value → Nat
  | .string s => s.size
  | _ => 0
theorem of_nine (W : World) (n : Nat) (hn : n < 1000000001) : Calls Tryz.prog 21 #[.int .u64 (n : Int)] W (NumPost W n) := of_any n (by omega) W
def PrRel (w : World) (l : List UInt8) (B : Nat) (bv sv av : Value) (wr : World) : Prop :=
  ∃ (pre : List UInt8) (rs : ByteArray), l = pre ++ rs.data.toList ∧ allD pre ∧ (pre = [] ∨ rs.size % 9 = 0) ∧ rs.size ≤ 4900 ∧ sv = .string rs ∧ Num wr wr.heap.size av (dv 0 pre) ∧ Num wr wr.heap.size bv B ∧ Below w.heap.size w wr

set_option maxRecDepth 100000 in
set_option maxHeartbeats 4000000 in
theorem Parse_any (s : ByteArray) (w : World) (hs : s.size ≤ maxLen) (hE : TabsE w) : Calls Tryz.prog 25 #[.string s] w (Res w (parseW s.data.toList)) := by
  have hlen := bl_len s
  have hl0 : 4900 < s.data.toList.length ↔ 4900 < s.size := by rw [hlen]
  clear hlen
  unfold maxLen at hs
  unfold Res
  by_cases h1 : 4900 < s.size
  · rw [parseW_long (hl0.2 h1)]
    clear hl0 hE
    have t1 : (4900 : Int) < (s.size : Int) := by omega
    go_enter Tryz.func25, Tryz.ntmps25
    go_wp2_with fail
    go_ret2
    exact ⟨.slice none 0 0, rfl, Num.zero _ _, Below.refl _ _⟩
  have hl1 : ¬ 4900 < s.data.toList.length := fun h => h1 (hl0.1 h)
  clear hl0
  have t1 : ¬ (4900 : Int) < (s.size : Int) := by omega
  by_cases h2 : s.size = 0
  · have hnil := List.eq_nil_of_length_eq_zero (show s.data.toList.length = 0 by rw [bl_len]; exact h2)
    rw [parseW_form hl1 (.inl hnil)]
    have e1 := empty_yes s h2
    have e2 := isEmpty_yes s h2
    clear hl1 h2 hE hnil
    go_enter Tryz.func25, Tryz.ntmps25
    go_wp2_with fail
    go_ret2
    exact ⟨.slice none 0 0, rfl, Num.zero _ _, Below.refl _ _⟩
  have h0 : 0 < s.size := by omega
  have e1 := empty_no s h0
  have e2 := isEmpty_no s h0
  by_cases h3 : 1 < s.size ∧ (s[0].toNat : Int) = 48
  · obtain ⟨h3, h4⟩ := h3
    rw [parseW_form hl1 (.inr ⟨by rw [bl_len]; exact h3, by rw [bl_head s h0, u8_eq48.2 h4]⟩)]
    have t4 : ((s[0].toNat : Int) == 48) = true := by simp [h4]
    have t5 : (s.toList == [48]) = false := by
      rw [toList_beq, decide_eq_false_iff_not]
      intro e
      have := bl_len s
      rw [e] at this; simp at this; omega
    have t6 : (s.toList != [48]) = true := by simp only [bne, t5, Bool.not_false]
    clear hl1 h2 h4 hE
    go_enter Tryz.func25, Tryz.ntmps25
    go_wp2_with fail
    go_ret2
    exact ⟨.slice none 0 0, rfl, Num.zero _ _, Below.refl _ _⟩
  have hf : ¬ (s.data.toList = [] ∨ (1 < s.data.toList.length ∧ s.data.toList.head? = some 48)) := by
    rintro (h | ⟨h, h'⟩)
    · have := bl_len s; rw [h] at this; simp at this; omega
    · rw [bl_len] at h
      rw [bl_head s h0, Option.some.injEq] at h'
      exact h3 ⟨h, u8_eq48.1 h'⟩
  have HY := Lib.hid (parseW_yes hl1 hf)
  have HN := Lib.hid (parseW_no hl1 hf)
  clear hf hl1
  have hmain : ((s[0].toNat : Int) == 48) = false ∨ (((s[0].toNat : Int) == 48) = true ∧ (s.toList == [48]) = true) := by
    by_cases h : 1 < s.size
    · left; exact beq_false_of_ne (fun h' => h3 ⟨h, h'⟩)
    · by_cases h' : (s[0].toNat : Int) = 48
      · right
        refine ⟨by simp [h'], ?_⟩
        rw [toList_beq, decide_eq_true_eq]
        have hl := bl_len s
        have hx := bl_at s 0 h0
        rw [u8_eq48.2 h'] at hx
        generalize s.data.toList = l at *
        match l, hl, hx with
        | [a], _, hx => simpa using hx
        | [], _, hx => simp at hx
        | _ :: _ :: _, hl, _ => simp at hl; omega
      · left; exact beq_false_of_ne h'
  have hsz : s.size ≤ 4900 := by omega
  have HOF : Hid (∀ (W : World) (n : Nat), n < 1000000001 → Calls Tryz.prog 21 #[.int .u64 (n : Int)] W (NumPost W n)) := Lib.hid of_nine
  have HE := Lib.hid hE
  have HSZ := Lib.hid hsz
  clear h3 h2 hE hs h1 hsz
  obtain ⟨n9, hn9⟩ : ∃ n9 : Nat, n9 = 1000000000 := ⟨_, rfl⟩
  have hn9I : (n9 : Int) = 1000000000 := by rw [hn9]; rfl
  have hb0 : Calls Tryz.prog 21 #[.int .u64 1000000000] w (NumPost w n9) := by
    have h := HOF.out w n9 (by rw [hn9]; decide)
    rw [hn9I] at h
    exact h
  have HB0 := Lib.hid hb0
  have HN9 := Lib.hid hn9
  clear hn9 hn9I hb0
  rcases hmain with t4 | ⟨t4, t5⟩
  all_goals
    (go_enter Tryz.func25, Tryz.ntmps25
     go_wp2_with fail
     refine HB0.out.mono ?_
     rintro e w1 ⟨bv, he, hbn, hb1⟩
     subst he
     have HBN := Lib.hid hbn
     have HB1 := Lib.hid hb1
     clear hbn hb1
     obtain ⟨l, hl⟩ : ∃ l, l = s.data.toList := ⟨_, rfl⟩
     have HL := Lib.hid hl
     have HLL : Hid (l.length ≤ 4900) := Lib.hid (by rw [hl, bl_len]; exact HSZ.out)
     rw [← hl] at HY HN
     clear hl
     go_wp2_with fail
     go_loopw [0, 5] (fun sv av wr => PrRel w l n9 bv sv av wr) (fun sv _ _ => strLen sv)
     case atStart => exact ⟨[], s, HL.out, allD_nil, .inl rfl, HSZ.out, rfl, by rw [dv_nil]; exact Num.zero _ _, HBN.out, HB1.out⟩
     case round =>
       obtain ⟨pre, rs, hl, hd, hp, hrl, rfl, hn, hbv, hb⟩ := hrel
       have HPRE := Lib.hid hl
       have HD := Lib.hid hd
       have HP := Lib.hid hp
       have HB := Lib.hid hb
       have HBV := Lib.hid hbv
       have hla : (dg (dv 0 pre)).length ≤ 4900 := Nat.le_trans (dv_small hd) (by have h1 := HLL.out; rw [hl, List.length_append] at h1; omega)
       have HNA := Lib.hid hn
       clear hl hd hp hb hbv hn
       by_cases hr0 : rs.size = 0
       · have e3 := empty_yes rs hr0
         have e4 := isEmpty_yes rs hr0
         have hall : rs.data.toList = [] := by rw [← toL]; exact e3
         have hpr := HPRE.out
         rw [hall, List.append_nil] at hpr
         subst hpr
         have hy := HY.out HD.out
         have HYY := Lib.hid hy
         clear hy hall hr0 hla
         go_wp2_with fail
         go_ret2
         rw [← HL.out, HYY.out]
         exact ⟨_, rfl, HNA.out, HB.out⟩
       · have hr1 : 0 < rs.size := by omega
         have e3 := empty_no rs hr1
         have e4 := isEmpty_no rs hr1
         obtain ⟨n, hn⟩ : ∃ n : Nat, n = (rs.size - 1) % 9 + 1 := ⟨_, rfl⟩
         have hnI : ((rs.size : Int) - 1) % 9 + 1 = (n : Int) := by omega
         have hn1 : 1 ≤ n := by omega
         have hn2 : n ≤ 9 := by omega
         have hn3 : n ≤ rs.size := by omega
         have hx1 := ext_front rs n
         have hx2 := ext_back rs n
         have hgl : (rs.data.toList.take n).length = n := by rw [List.length_take, bl_len]; omega
         have hgne : rs.data.toList.take n ≠ [] := by intro e; rw [e] at hgl; simp at hgl; omega
         have hsp : l = pre ++ (rs.data.toList.take n ++ rs.data.toList.drop n) := by rw [List.take_append_drop]; exact HPRE.out
         have hs2 : (rs.extract n rs.size).size = rs.size - n := by rw [← bl_len, hx2, List.length_drop, bl_len]
         have hmod : (rs.size - n) % 9 = 0 := by omega
         have hg9 : pre = [] ∨ (rs.data.toList.take n).length = 9 := by
           rcases HP.out with h | h
           · exact .inl h
           · right; rw [hgl]; omega
         by_cases had : allD (rs.data.toList.take n)
         · have hall2 : allD (pre ++ rs.data.toList.take n) := allD_append.2 ⟨HD.out, had⟩
           have hdv := dv_group (pre := pre) (g := rs.data.toList.take n) hg9
           have hpu := pu_yes had (by omega) hgne
           have hG := dv_nine had (by omega)
           rw [← hx1] at hpu
           have hsz1 : (rs.extract 0 n).size ≤ 100000 := by rw [← bl_len, hx1, hgl]; omega
           have hcall := pu_call (rs.extract 0 n) _ hsz1 hpu wr
           have hl2 : l = (pre ++ rs.data.toList.take n) ++ (rs.extract n rs.size).data.toList := by rw [hx2, List.append_assoc]; exact hsp
           have hr2 : (rs.extract n rs.size).size ≤ 4900 := by omega
           have hms : (rs.extract n rs.size).size < rs.size := by omega
           have hmd : (rs.extract n rs.size).size % 9 = 0 := by rw [hs2]; exact hmod
           rw [hx1] at hcall
           generalize hpre2 : pre ++ rs.data.toList.take n = pre2 at hall2 hdv hl2
           clear hpre2
           generalize dv 0 (rs.data.toList.take n) = G at *
           generalize hP : dv 0 pre = P at *
           have hpd : ∀ W, Below wr.heap.size wr W → Calls Tryz.prog 85 #[u5, bv] W (NumPost W (P * n9)) := by
             intro W hW
             have h := product_any u5 bv _ _ W (Num.up HNA.out hW) (Num.up HBV.out hW) (by omega) (Nat.le_trans (dg_le.2 (by rw [Nat.pow_one, LB_eq, HN9.out]; decide) : (dg n9).length ≤ 1) (by omega))
             rw [val_dg, val_dg] at h
             exact h
           have hsu : ∀ W1 W2 va vb, Below W1.heap.size W1 W2 → Num W1 W1.heap.size va (P * n9) → Num W2 W2.heap.size vb G → Calls Tryz.prog 84 #[va, vb] W2 (NumPost W2 (P * n9 + G)) := by
             intro W1 W2 va vb hW ha hb
             have l1 := len_mul P n9
             have l2 : (dg n9).length ≤ 1 := dg_le.2 (by rw [Nat.pow_one, LB_eq, HN9.out]; decide)
             have l3 : (dg G).length ≤ 1 := dg_le.2 (by rw [Nat.pow_one, LB_eq]; omega)
             have h := sum_any va vb _ _ W2 (Num.up ha hW) hb (by omega) (by omega)
             rw [val_dg, val_dg] at h
             exact h
           rw [← HN9.out] at hdv
           have hog : ∀ W, Calls Tryz.prog 21 #[.int .u64 (G : Int)] W (NumPost W G) := fun W => HOF.out W G (by omega)
           have HCALL := Lib.hid hcall
           have HALL := Lib.hid hall2
           have HDV := Lib.hid hdv
           have HL2 := Lib.hid hl2
           have HMS := Lib.hid hms
           have HMD := Lib.hid hmd
           have HR2 := Lib.hid hr2
           have HPD := Lib.hid hpd
           have HSU := Lib.hid hsu
           have HOG := Lib.hid hog
           clear hcall hall2 hdv hl2 hms hmd hr2 hpd hsu hog had hpu hsz1 hsp hgne hgl hx1 hx2 hs2 hmod hg9 hr0 hn hG hP hla
           go_wp2_with fail
           refine HCALL.out.mono ?_
           rintro e w3 ⟨he, hb3⟩
           subst he
           go_wp2_with fail
           refine (HPD.out w3 hb3).mono ?_
           rintro e w4 ⟨v4, he, hn4, hb4⟩
           subst he
           go_wp2_with fail
           refine (HOG.out w4).mono ?_
           rintro e w5 ⟨v5, he, hn5, hb5⟩
           subst he
           go_wp2_with fail
           refine (HSU.out w4 w5 _ _ hb5 hn4 hn5).mono ?_
           rintro e w6 ⟨v6, he, hn6, hb6⟩
           subst he
           have hbb : Below wr.heap.size wr w6 := (hb3.trans (hb4.mono hb3.size)).trans ((hb5.mono (Nat.le_trans hb3.size hb4.size)).trans (hb6.mono (Nat.le_trans (Nat.le_trans hb3.size hb4.size) hb5.size)))
           have HBB := Lib.hid hbb
           have HN6 := Lib.hid hn6
           clear hbb hn6 hb3 hb4 hb5 hb6 hn4 hn5
           go_wp2_with fail
           go_roundw
           case rel => exact ⟨pre2, _, HL2.out, HALL.out, .inr HMD.out, HR2.out, rfl, by rw [HDV.out]; exact HN6.out, Num.up HBV.out HBB.out, HB.out.trans (HBB.out.mono HB.out.size)⟩
           case measure => exact HMS.out
         · have hbad := allD_mid (a := pre) (c := rs.data.toList.drop n) had
           rw [← hsp] at hbad
           have hno := HN.out hbad
           have hpu := pu_no had (by omega) hgne
           rw [← hx1] at hpu
           have hsz1 : (rs.extract 0 n).size ≤ 100000 := by rw [← bl_len, hx1, hgl]; omega
           have hcall := pu_fail (rs.extract 0 n) hsz1 hpu wr (HE.out.below HB.out)
           have HCALL := Lib.hid hcall
           have HNO := Lib.hid hno
           clear hcall hno hbad had hpu hsz1 hsp hgne hgl hx1 hx2 hs2 hmod hg9 hr0 hla hn
           go_wp2_with fail
           refine HCALL.out.mono ?_
           rintro e w3 ⟨N, he, hb3⟩
           subst he
           go_wp2_with fail
           go_ret2
           rw [← HL.out, HNO.out]
           exact ⟨.slice none 0 0, rfl, Num.zero _ _, HB.out.trans (hb3.mono HB.out.size)⟩)
end Go.Proofs.YtlababdfdjjjaaaGreatDoor
