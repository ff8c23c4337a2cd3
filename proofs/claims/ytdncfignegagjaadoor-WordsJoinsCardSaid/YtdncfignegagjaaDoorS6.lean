import Derived.Test.YtdncfignegagjaaDoorS5
import Derived.Test.YtdncfignegagjaaDoorS3
namespace Go.Proofs.YtdncfignegagjaaDoor
open Go.RowKit

theorem splitW_few (l : List UInt8) : (splitW l).1.length ≤ 64 := by
  rw [splitW_parse]
  split
  · simp
  · split
    · simp
    · unfold ofParse
      split
      · simp
      · split
        · simp
        · simp only; omega
theorem joinW_good {fs : List Fld} (h : (joinW fs).2 = 0) : ∀ x ∈ fs, rightB x = true := by
  unfold joinW at h
  split at h
  · simp at h
  · split at h
    · simp at h
    · rename_i hr
      simp only [Bool.not_eq_true, List.any_eq_false] at hr
      intro x hx
      simpa using hr x hx
theorem right_le {x : Fld} (h : rightB x = true) : x.2.length ≤ 200 := by
  obtain ⟨q, s⟩ := x
  cases q
  · exact textB_len (bare_good h).2.2
  · exact textB_len h

set_option maxRecDepth 100000 in
set_option maxHeartbeats 4000000 in
/-- The law WordsSplits. -/
theorem lawSplits_any (s : ByteArray) (w : World) (hT : Tabs w) (hs : s.size ≤ maxLen) :
    Calls Tryd.prog 8 #[.string s] w fun e w' => e = .returned (.bool true) ∧ Below w.heap.size w w' := by
  have hs0 := hs
  unfold maxLen at hs
  have HT := Lib.hid hT
  clear hT
  by_cases h : 6000 < s.size
  · go_enter Tryd.func8, Tryd.ntmps8
    go_wp2_with fail
    refine (shown_any _ HT.out).mono ?_
    rintro e w1 ⟨rfl, hb⟩
    go_wp2_with fail
    go_ret
    exact ⟨rfl, hb⟩
  have hfew := splitW_few s.data.toList
  have c1 := fun w hT => split_any s hs0 w hT
  have c2 := fun w => rsplit_any s w (by omega)
  have hj : (splitW s.data.toList).2 = 0 → joinW (splitW s.data.toList).1 = (s.data.toList, 0) := fun e => join_split (by rw [← e])
  generalize splitW s.data.toList = x at *
  obtain ⟨fs, er⟩ := x
  simp only at hfew hj
  have hl : fs.length ≤ 1000000 := by omega
  have C1 := Lib.hid c1
  have C2 := Lib.hid c2
  have HJ := Lib.hid hj
  clear c1 c2 hj
  by_cases her : er = 0
  · subst her
    have hjw := HJ.out rfl
    have hgood := joinW_good (by rw [hjw])
    have hstr : ∀ x ∈ fs, x.2.length ≤ maxLen := fun x hx => by have := right_le (hgood x hx); unfold maxLen; omega
    have c3 := fun v W hT hx => join_any v fs W hT hx hl hstr
    rw [hjw] at c3
    have C3 := Lib.hid c3
    clear hjw hgood hstr c3
    go_enter Tryd.func8, Tryd.ntmps8
    go_wp2_with fail
    refine (C1.out _ HT.out).mono ?_
    rintro e w1 ⟨v1, rfl, hown1, hb1⟩
    have HS1 := Lib.hid (SlF.of_own hown1)
    have HB1 := Lib.hid hb1
    clear hown1 hb1
    go_wp2_with fail
    refine (C2.out _).mono ?_
    rintro e w2 ⟨v2, rfl, hown2, hb2⟩
    have HS2 := Lib.hid (SlF.of_own hown2)
    have HS1b := Lib.hid ((HS1.out.below hb2).more hb2.size)
    have HB2 := Lib.hid (HB1.out.trans (hb2.mono HB1.out.size))
    clear hown2 hb2
    go_wp2_with fail
    refine (lawFields_any v1 fs _ HS1b.out hl).mono ?_
    rintro e w3 ⟨v3, rfl, hown3, hb3⟩
    have HS3 := Lib.hid (SlF.of_own hown3)
    have HS1c := Lib.hid ((HS1b.out.below hb3).more hb3.size)
    have HS2c := Lib.hid ((HS2.out.below hb3).more hb3.size)
    have HB3 := Lib.hid (HB2.out.trans (hb3.mono HB2.out.size))
    clear hown3 hb3
    go_wp2_with fail
    refine (alike_any v3 v2 fs fs _ HS3.out HS2c.out hl hl).mono ?_
    rintro e w4 ⟨rfl, hd⟩
    have hb4 := hd.below
    have HS1d := Lib.hid ((HS1c.out.below hb4).more hb4.size)
    have HB4 := Lib.hid (HB3.out.trans (hb4.mono HB3.out.size))
    clear hb4 hd
    simp only [decide_true]
    go_wp2_with fail
    refine (C3.out v1 _ (HT.out.below HB4.out) HS1d.out).mono ?_
    rintro e w5 ⟨rfl, hb5⟩
    have HB5 := Lib.hid (HB4.out.trans (hb5.mono HB4.out.size))
    clear hb5
    simp only [strV]
    go_wp2_with fail
    refine (shown_any _ (HT.out.below HB5.out)).mono ?_
    rintro e w6 ⟨rfl, hb6⟩
    have HB6 := Lib.hid (HB5.out.trans (hb6.mono HB5.out.size))
    clear hb6
    go_wp2_with fail
    go_ret
    exact ⟨rfl, HB6.out⟩
  · have q1 : (er == 0) = false := by simp [her]
    have q2 : (er != 0) = true := by simp [her]
    clear her
    go_enter Tryd.func8, Tryd.ntmps8
    go_wp2_with fail
    refine (C1.out _ HT.out).mono ?_
    rintro e w1 ⟨v1, rfl, hown1, hb1⟩
    have HS1 := Lib.hid (SlF.of_own hown1)
    have HB1 := Lib.hid hb1
    clear hown1 hb1
    go_wp2_with fail
    refine (C2.out _).mono ?_
    rintro e w2 ⟨v2, rfl, hown2, hb2⟩
    have HS2 := Lib.hid (SlF.of_own hown2)
    have HS1b := Lib.hid ((HS1.out.below hb2).more hb2.size)
    have HB2 := Lib.hid (HB1.out.trans (hb2.mono HB1.out.size))
    clear hown2 hb2
    go_wp2_with fail
    refine (lawFields_any v1 fs _ HS1b.out hl).mono ?_
    rintro e w3 ⟨v3, rfl, hown3, hb3⟩
    have HS3 := Lib.hid (SlF.of_own hown3)
    have HS2c := Lib.hid ((HS2.out.below hb3).more hb3.size)
    have HB3 := Lib.hid (HB2.out.trans (hb3.mono HB2.out.size))
    clear hown3 hb3
    go_wp2_with fail
    refine (alike_any v3 v2 fs fs _ HS3.out HS2c.out hl hl).mono ?_
    rintro e w4 ⟨rfl, hd⟩
    have HB4 := Lib.hid (HB3.out.trans (hd.below.mono HB3.out.size))
    clear hd
    simp only [decide_true]
    go_wp2_with fail
    refine (shown_any _ (HT.out.below HB4.out)).mono ?_
    rintro e w6 ⟨rfl, hb6⟩
    have HB6 := Lib.hid (HB4.out.trans (hb6.mono HB4.out.size))
    clear hb6
    go_wp2_with fail
    go_ret
    exact ⟨rfl, HB6.out⟩
end Go.Proofs.YtdncfignegagjaaDoor
