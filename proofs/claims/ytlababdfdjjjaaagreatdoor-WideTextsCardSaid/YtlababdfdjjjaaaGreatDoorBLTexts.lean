import Derived.Test.YtlababdfdjjjaaaGreatDoorB1
import Derived.Test.YtlababdfdjjjaaaGreatDoorPR
import Derived.Test.YtlababdfdjjjaaaGreatDoorRT
namespace Go.Proofs.YtlababdfdjjjaaaGreatDoor
open Go.RowKit

theorem parse_small {s : ByteArray} (h : s.size ≤ 200 ∨ 4900 < s.size) : (dg (parseW s.data.toList).1).length ≤ 1000 := by
  rcases h with h | h
  · unfold parseW
    rw [if_neg (by rw [bl_len]; omega)]
    split
    · rw [dg_zero]; simp
    · split
      · rename_i hd
        have h1 := dv_small hd
        rw [bl_len] at h1
        show (dg (dv 0 s.data.toList)).length ≤ 1000
        omega
      · rw [dg_zero]; simp
  · rw [parseW_long (by rw [bl_len]; exact h), dg_zero]; simp
theorem cParse (s : ByteArray) (W : World) (hs : s.size ≤ maxLen) (hE : TabsE W) (h : s.size ≤ 200 ∨ 4900 < s.size) (n : Nat) (e : Int) (hp : parseW s.data.toList = (n, e)) :
    Calls Tryz.prog 25 #[.string s] W fun e' w' => ∃ v, e' = .returned (.tuple #[v, .int .i64 e]) ∧ Arg w' v (dg n) ∧ Below W.heap.size W w' := by
  have hl := parse_small h
  have h := Parse_any s W hs hE
  rw [hp] at h hl
  refine h.mono ?_
  rintro e' w' ⟨v, he, hn, hb⟩
  exact ⟨v, he, num_arg hn _ rfl hl, hb⟩
theorem rcParse (s : ByteArray) (W : World) (hs : s.size ≤ maxLen) (h : s.size ≤ 200 ∨ 4900 < s.size) (n : Nat) (e : Int) (hp : parseW s.data.toList = (n, e)) :
    Calls Tryz.prog 26 #[.string s] W fun e' w' => ∃ v, e' = .returned (.tuple #[v, .int .i64 e]) ∧ Arg w' v (dg n) ∧ Below W.heap.size W w' := by
  have hl := parse_small h
  have h := rParse_any s W hs
  rw [hp] at h hl
  refine h.mono ?_
  rintro e' w' ⟨v, he, hn, hb⟩
  exact ⟨v, he, num_arg hn _ rfl hl, hb⟩
theorem cText (va : Value) (la : List Nat) (W : World) (ha : Arg W va la) (hT : Tabs W) (t : ByteArray) (e : Int) (ht : (⟨(textW la).1.toArray⟩ : ByteArray) = t) (hee : (textW la).2 = e) :
    Calls Tryz.prog 23 #[va] W fun e' w' => e' = .returned (.tuple #[.string t, .int .i64 e]) ∧ Below W.heap.size W w' := by
  have h := Text_any va la W ha hT
  rw [ht, hee] at h
  exact h
theorem rcText (va : Value) (la : List Nat) (W : World) (ha : Arg W va la) (t : ByteArray) (e : Int) (ht : (⟨(textW la).1.toArray⟩ : ByteArray) = t) (hee : (textW la).2 = e) :
    Calls Tryz.prog 24 #[va] W fun e' w' => e' = .returned (.tuple #[.string t, .int .i64 e]) ∧ Below W.heap.size W w' := by
  have h := rText_any va la W ha
  rw [ht, hee] at h
  exact h

set_option maxRecDepth 100000 in
set_option maxHeartbeats 16000000 in
theorem lawWideTexts_any (A : Option Addr) (n1 ca : Nat) (la : List Nat) (s : ByteArray) (w : World) (hE : TabsE w) (hm : n1 ≤ maxLen) (ha : n1 ≤ 100000000 → Arg w (.slice A n1 ca) la) (hs : s.size ≤ maxLen) :
    Calls Tryz.prog 4 #[.slice A n1 ca, .string s] w fun e w' => e = .returned (.bool true) ∧ Below w.heap.size w w' := by
  have hT := hE.toTabs
  have HE := Lib.hid hE
  have HT := Lib.hid hT
  have HB := Lib.hid (Below.refl w.heap.size w)
  have HS := Lib.hid hs
  have HA0 := Lib.hid ha
  unfold maxLen at hm hs
  clear hT hE ha
  by_cases c1 : (40 : Int) < (n1 : Int) <;> by_cases c2 : (n1 : Int) ≤ 512 <;> by_cases c3 : (520 : Int) < (n1 : Int) <;> by_cases c4 : (200 : Int) < (s.size : Int) <;> by_cases c5 : (s.size : Int) ≤ 4900 <;> by_cases c6 : (4910 : Int) < (s.size : Int)
  all_goals first
    | (exfalso; omega)
    | (have hfar : (40 < n1 ∧ n1 ≤ 512) ∨ 520 < n1 ∨ (200 < s.size ∧ s.size ≤ 4900) ∨ 4910 < s.size := by omega
       clear hfar HE HS HA0
       go_enter Tryz.func4, Tryz.ntmps4
       go_wp2_with fail
       refine (awake_any _ (HT.out.below HB.out)).mono ?_
       rintro e w1 ⟨he, hb⟩
       subst he
       go_wp2_with fail
       go_ret
       exact ⟨rfl, HB.out.trans (hb.mono HB.out.size)⟩)
    | (have hA := HA0.out (by omega)
       have FA := Lib.hid hA
       have SZ := Lib.hid (show s.size ≤ 200 ∨ 4900 < s.size by omega)
       obtain ⟨t, ht⟩ : ∃ t, (⟨(textW la).1.toArray⟩ : ByteArray) = t := ⟨_, rfl⟩
       obtain ⟨te, hte⟩ : ∃ te, (textW la).2 = te := ⟨_, rfl⟩
       obtain ⟨pn, pe, hpp⟩ : ∃ pn pe, parseW s.data.toList = (pn, pe) := ⟨_, _, rfl⟩
       have TT := Lib.hid ht
       have TE := Lib.hid hte
       have PP := Lib.hid hpp
       have q1 : (t.toList == t.toList) = true := by simp
       clear ht hte hpp hA HA0
       go_enter Tryz.func4, Tryz.ntmps4
       go_wp2_with fail
       refine (cText _ la _ FA.out (HT.out.below HB.out) t te TT.out TE.out).mono ?_
       rintro e w1 ⟨he, hb⟩
       subst he
       have FA' := Lib.hid (FA.out.up hb)
       clear FA
       have FA := FA'
       clear FA'
       have HB' := Lib.hid (HB.out.trans (hb.mono HB.out.size))
       clear HB
       have HB := HB'
       clear HB'
       clear hb
       go_wp2_with fail
       refine (rcText _ la _ FA.out t te TT.out TE.out).mono ?_
       rintro e w2 ⟨he, hb⟩
       subst he
       have FA' := Lib.hid (FA.out.up hb)
       clear FA
       have FA := FA'
       clear FA'
       have HB' := Lib.hid (HB.out.trans (hb.mono HB.out.size))
       clear HB
       have HB := HB'
       clear HB'
       clear hb
       go_wp2_with fail
       refine (cParse s _ HS.out (HE.out.below HB.out) SZ.out pn pe PP.out).mono ?_
       rintro e w3 ⟨v1, he, hP1, hb⟩
       subst he
       have FA' := Lib.hid (FA.out.up hb)
       clear FA
       have FA := FA'
       clear FA'
       have HB' := Lib.hid (HB.out.trans (hb.mono HB.out.size))
       clear HB
       have HB := HB'
       clear HB'
       clear hb
       have P1 := Lib.hid hP1
       clear hP1
       go_wp2_with fail
       refine (rcParse s _ HS.out SZ.out pn pe PP.out).mono ?_
       rintro e w4 ⟨v2, he, hP2, hb⟩
       subst he
       have FA' := Lib.hid (FA.out.up hb)
       clear FA
       have FA := FA'
       clear FA'
       have P1' := Lib.hid (P1.out.up hb)
       clear P1
       have P1 := P1'
       clear P1'
       have HB' := Lib.hid (HB.out.trans (hb.mono HB.out.size))
       clear HB
       have HB := HB'
       clear HB'
       clear hb
       have P2 := Lib.hid hP2
       clear hP2
       go_wp2_with fail
       refine (aw_same _ _ _ _ P1.out P2.out).mono ?_
       rintro e w5 ⟨he, hb⟩
       subst he
       have FA' := Lib.hid (FA.out.up hb)
       clear FA
       have FA := FA'
       clear FA'
       have P1' := Lib.hid (P1.out.up hb)
       clear P1
       have P1 := P1'
       clear P1'
       have P2' := Lib.hid (P2.out.up hb)
       clear P2
       have P2 := P2'
       clear P2'
       have HB' := Lib.hid (HB.out.trans (hb.mono HB.out.size))
       clear HB
       have HB := HB'
       clear HB'
       clear hb
       go_wp2_with fail
       refine (awake_any _ (HT.out.below HB.out)).mono ?_
       rintro e w6 ⟨he, hb⟩
       subst he
       go_wp2_with fail
       go_ret
       exact ⟨rfl, HB.out.trans (hb.mono HB.out.size)⟩)
end Go.Proofs.YtlababdfdjjjaaaGreatDoor
