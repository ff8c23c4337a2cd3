import Derived.Test.YtlababdfdjjjaaaGreatDoorPX
import Derived.Test.YtlababdfdjjjaaaGreatDoorRRA
import Derived.Test.YtlababdfdjjjaaaGreatDoorNI
namespace Go.Proofs.YtlababdfdjjjaaaGreatDoor
open Go.RowKit

/-! The reference's Parse. -/
theorem bl_len (s : ByteArray) : s.data.toList.length = s.size := by simp
theorem bl_at (s : ByteArray) (k : Nat) (h : k < s.size) : s.data.toList[k]? = some s[k] := by
  rw [List.getElem?_eq_getElem (by simpa using h)]
  simp [ByteArray.getElem_eq_getElem_data]
theorem bl_head (s : ByteArray) (h : 0 < s.size) : s.data.toList.head? = some s[0] := by
  rw [List.head?_eq_getElem?]; exact bl_at s 0 h
theorem bl_take (s : ByteArray) (k : Nat) (h : k < s.size) : s.data.toList.take (k + 1) = s.data.toList.take k ++ [s[k]] := by
  rw [List.take_add_one, bl_at s k h]; rfl
theorem bl_rest (s : ByteArray) (k : Nat) (h : k < s.size) : s.data.toList = s.data.toList.take k ++ ([s[k]] ++ s.data.toList.drop (k + 1)) := by
  rw [← List.append_assoc, ← bl_take s k h, List.take_append_drop]
theorem parseW_long {l : List UInt8} (h : 4900 < l.length) : parseW l = (0, 3) := by unfold parseW; rw [if_pos h]
theorem parseW_form {l : List UInt8} (h : ¬ 4900 < l.length) (h2 : l = [] ∨ (1 < l.length ∧ l.head? = some 48)) : parseW l = (0, 6) := by unfold parseW; rw [if_neg h, if_pos h2]
theorem parseW_yes {l : List UInt8} (h : ¬ 4900 < l.length) (h2 : ¬ (l = [] ∨ (1 < l.length ∧ l.head? = some 48))) (h3 : allD l) : parseW l = (dv 0 l, 0) := by unfold parseW; rw [if_neg h, if_neg h2, if_pos h3]
theorem parseW_no {l : List UInt8} (h : ¬ 4900 < l.length) (h2 : ¬ (l = [] ∨ (1 < l.length ∧ l.head? = some 48))) (h3 : ¬ allD l) : parseW l = (0, 6) := by unfold parseW; rw [if_neg h, if_neg h2, if_neg h3]
theorem u8_eq48 {c : UInt8} : c = 48 ↔ (c.toNat : Int) = 48 := by
  constructor
  · rintro rfl; rfl
  · intro h; exact UInt8.toNat_inj.1 (show c.toNat = 48 by omega)
def RpRel (w : World) (s : ByteArray) (av iv : Value) (wr : World) : Prop :=
  ∃ k : Nat, k ≤ s.size ∧ iv = .int .i64 (k : Int) ∧ allD (s.data.toList.take k) ∧ Num wr wr.heap.size av (dv 0 (s.data.toList.take k)) ∧ Below w.heap.size w wr

set_option maxRecDepth 100000 in
set_option maxHeartbeats 4000000 in
theorem rParse_any (s : ByteArray) (w : World) (hs : s.size ≤ maxLen) : Calls Tryz.prog 26 #[.string s] w (Res w (parseW s.data.toList)) := by
  have hlen := bl_len s
  have hl0 : 4900 < s.data.toList.length ↔ 4900 < s.size := by rw [hlen]
  clear hlen
  unfold maxLen at hs
  unfold Res
  by_cases h1 : 4900 < s.size
  · rw [parseW_long (hl0.2 h1)]
    clear hl0
    have t1 : (4900 : Int) < (s.size : Int) := by omega
    go_enter Tryz.func26, Tryz.ntmps26
    go_wp2_with fail
    go_ret2
    exact ⟨.slice none 0 0, rfl, Num.zero _ _, Below.refl _ _⟩
  have hl1 : ¬ 4900 < s.data.toList.length := fun h => h1 (hl0.1 h)
  clear hl0
  have t1 : ¬ (4900 : Int) < (s.size : Int) := by omega
  by_cases h2 : s.size = 0
  · rw [parseW_form hl1 (.inl (List.eq_nil_of_length_eq_zero (by rw [bl_len]; exact h2)))]
    have t2 : ((s.size : Int) == 0) = true := by simp [h2]
    clear hl1 h2
    go_enter Tryz.func26, Tryz.ntmps26
    go_wp2_with fail
    go_ret2
    exact ⟨.slice none 0 0, rfl, Num.zero _ _, Below.refl _ _⟩
  have h0 : 0 < s.size := by omega
  have t2 : ((s.size : Int) == 0) = false := by simp [h2]
  by_cases h3 : 1 < s.size ∧ (s[0].toNat : Int) = 48
  · obtain ⟨h3, h4⟩ := h3
    rw [parseW_form hl1 (.inr ⟨by rw [bl_len]; exact h3, by rw [bl_head s h0, u8_eq48.2 h4]⟩)]
    have t3 : (1 : Int) < (s.size : Int) := by omega
    have t4 : ((s[0].toNat : Int) == 48) = true := by simp [h4]
    clear hl1 h2 h4
    go_enter Tryz.func26, Tryz.ntmps26
    go_wp2_with fail
    go_ret2
    exact ⟨.slice none 0 0, rfl, Num.zero _ _, Below.refl _ _⟩
  have hf : ¬ (s.data.toList = [] ∨ (1 < s.data.toList.length ∧ s.data.toList.head? = some 48)) := by
    rintro (h | ⟨h, h'⟩)
    · have := bl_len s; rw [h] at this; simp at this; omega
    · rw [bl_len] at h
      rw [bl_head s h0, Option.some.injEq] at h'
      exact h3 ⟨h, u8_eq48.1 h'⟩
  have HY := Lib.hid (parseW_yes hl1 hf)
  have HN := Lib.hid (parseW_no hl1 hf)
  clear hf hl1
  have hmain : (1 < s.size ∧ ((s[0].toNat : Int) == 48) = false) ∨ ¬ (1 : Int) < (s.size : Int) := by
    by_cases h : 1 < s.size
    · left; refine ⟨h, beq_false_of_ne (fun h' => h3 ⟨h, h'⟩)⟩
    · right; omega
  have hz : Num w w.heap.size (.slice none 0 0) (dv 0 (s.data.toList.take 0)) := by
    rw [List.take_zero, dv_nil]; exact Num.zero _ _
  have HZ := Lib.hid hz
  clear h3 h2 hz
  rcases hmain with ⟨t3, t4⟩ | t3
  all_goals
    (go_enter Tryz.func26, Tryz.ntmps26
     go_wp2_with fail
     go_loopw [4, 5] (fun av iv wr => RpRel w s av iv wr) (fun _ iv _ => s.size - (intOf iv).toNat)
     case atStart => exact ⟨0, Nat.zero_le _, rfl, by rw [List.take_zero]; exact allD_nil, HZ.out, Below.refl _ _⟩
     case round =>
       obtain ⟨k, hk, rfl, hd, hn, hb⟩ := hrel
       have HD := Lib.hid hd
       have HB := Lib.hid hb
       obtain ⟨Aa, ca, rfl, -⟩ := Lim.form hn
       have hla := dv_small hd
       have hla2 : (dg (dv 0 (s.data.toList.take k))).length ≤ 5000 := Nat.le_trans hla (by rw [List.length_take]; omega)
       have HNA := Lib.hid hn
       have HLA := Lib.hid hla2
       clear hd hb hn hla hla2
       by_cases hlt : k < s.size
       · have hltI : (k : Int) < (s.size : Int) := by omega
         have hst := bl_take s k hlt
         have hrs := bl_rest s k hlt
         by_cases hc : 48 ≤ (s[k].toNat : Int) ∧ (s[k].toNat : Int) ≤ 57
         · obtain ⟨c1, c2⟩ := hc
           have hd2 : allD (s.data.toList.take (k + 1)) := by rw [hst]; exact allD_append.2 ⟨HD.out, allD_cons.2 ⟨⟨by omega, by omega⟩, allD_nil⟩⟩
           have hdv : dv 0 (s.data.toList.take (k + 1)) = dv 0 (s.data.toList.take k) * 10 + (s[k].toNat - 48) := by rw [hst, dv_one]
           obtain ⟨d, hdd⟩ : ∃ d : Nat, d = s[k].toNat - 48 := ⟨_, rfl⟩
           rw [← hdd] at hdv
           have d1 : (s[k].toNat : Int) - 48 = (d : Int) := by omega
           have d2 : IntKind.u8.wrap ((s[k].toNat : Int) - 48) = (d : Int) := by rw [d1, IntKind.wrap_u8]; omega
           have d3 : IntKind.u64.wrap (d : Int) = (d : Int) := IntWalk.u64_in _ (by omega)
           have h10 : ∀ W, Calls Tryz.prog 22 #[.int .u64 10] W (RNum W 10) := fun W => rof_any 10 (by omega) W
           have hd1 : ∀ W, Calls Tryz.prog 22 #[.int .u64 (d : Int)] W (RNum W d) := fun W => rof_any d (by omega) W
           generalize dv 0 (s.data.toList.take k) = m at *
           have ht : ∀ W W' va vb, Below W.heap.size W W' → Num W W.heap.size va m → Num W' W'.heap.size vb 10 → Calls Tryz.prog 87 #[va, vb] W' (RNum W' (m * 10)) := by
             intro W W' va vb hbb ha hb
             have h := rtimes_any va vb _ _ W' (ha.up hbb) hb (by have := HLA.out; omega) (Nat.le_trans (dg_le.2 (by rw [Nat.pow_one, LB_eq]; omega) : (dg 10).length ≤ 1) (by omega))
             rw [val_dg, val_dg] at h
             exact h
           have hp : ∀ W W' va vb, Below W.heap.size W W' → Num W W.heap.size va (m * 10) → Num W' W'.heap.size vb d → Calls Tryz.prog 86 #[va, vb] W' (RNum W' (m * 10 + d)) := by
             intro W W' va vb hbb ha hb
             have hl1 := len_mul m 10
             have hl2 : (dg 10).length ≤ 1 := dg_le.2 (by rw [Nat.pow_one, LB_eq]; omega)
             have hl3 : (dg d).length ≤ 1 := dg_le.2 (by rw [Nat.pow_one, LB_eq]; omega)
             have h := rplus_any va vb _ _ W' (ha.up hbb) hb (by have := HLA.out; omega) (by omega)
             rw [val_dg, val_dg] at h
             exact h
           have HD2 := Lib.hid hd2
           have HDV := Lib.hid hdv
           have H10 := Lib.hid h10
           have HD1 := Lib.hid hd1
           have HT := Lib.hid ht
           have HP := Lib.hid hp
           clear hst hrs hd2 hdv hdd h10 hd1 ht hp d1
           generalize (dg m).length = la at *
           go_wp2_with fail
           go_region_held3 (fun _ => True) (trivial)
             (first
               | (go_at_call 22; refine Calls.mono (H10.out _) ?_; rintro e w3 ⟨v10, he, hn10, hb10, -⟩; subst he; clear H10)
               | (go_at_call 87; refine Calls.mono (HT.out wr _ _ _ ((Below.refl _ wr).drew.trans hb10) HNA.out hn10) ?_; rintro e w4 ⟨vt, he, hnt, hbt, -⟩; subst he; clear HT)
               | (go_at_call 22; refine Calls.mono (HD1.out _) ?_; rintro e w5 ⟨vd, he, hnd, hbd, -⟩; subst he; clear HD1)
               | (go_at_call 86; refine Calls.mono (HP.out _ _ _ _ hbd hnt hnd) ?_; rintro e w6 ⟨vp, he, hnp, hbp, -⟩; subst he; clear HP))
           all_goals
             (have hb3 : Below wr.heap.size wr w6 := (((Below.refl _ wr).drew.trans hb10).trans (hbt.mono hb10.size)).trans ((hbd.mono (Nat.le_trans hb10.size hbt.size)).trans (hbp.mono (Nat.le_trans (Nat.le_trans hb10.size hbt.size) hbd.size)))
              go_wp2_with fail
              first
                | exact ⟨⟨k + 1, by omega, by go_num, HD2.out, by rw [HDV.out]; exact hnp, HB.out.trans (hb3.mono HB.out.size)⟩, by simp [intOf]; omega⟩
                | (go_roundw
                   case rel => exact ⟨k + 1, by omega, by go_num, HD2.out, by rw [HDV.out]; exact hnp, HB.out.trans (hb3.mono HB.out.size)⟩
                   case measure => simp [intOf]; omega))
         · have hbad : ¬ allD s.data.toList := by
             rw [hrs]
             refine allD_mid (fun h => hc ?_)
             have h1 := (allD_cons.1 h).1
             unfold isD at h1
             omega
           have hno := HN.out hbad
           have HNO := Lib.hid hno
           clear hno hbad hst hrs
           by_cases c1 : (s[k].toNat : Int) < 48
           · clear hc
             go_wp2_with fail
             go_ret2
             rw [HNO.out]
             exact ⟨.slice none 0 0, rfl, Num.zero _ _, HB.out⟩
           · have c2 : 57 < (s[k].toNat : Int) := by omega
             have c1' : 48 ≤ (s[k].toNat : Int) := by omega
             clear c1
             clear hc
             go_wp2_with fail
             go_ret2
             rw [HNO.out]
             exact ⟨.slice none 0 0, rfl, Num.zero _ _, HB.out⟩
       · obtain rfl : k = s.size := by omega
         have htk : s.data.toList.take s.size = s.data.toList := List.take_of_length_le (by rw [bl_len]; omega)
         have hy := HY.out (htk ▸ HD.out)
         have HYY := Lib.hid hy
         have HTK := Lib.hid htk
         clear hy htk hlt
         go_wp2_with fail
         go_ret2
         rw [HYY.out]
         have hfin := HNA.out
         obtain ⟨vv, hvv⟩ : ∃ vv, vv = Value.slice Aa (dg (dv 0 (s.data.toList.take s.size))).length ca := ⟨_, rfl⟩
         rw [← hvv, HTK.out, hvv] at hfin
         exact ⟨_, rfl, hfin, HB.out⟩)
end Go.Proofs.YtlababdfdjjjaaaGreatDoor
