import Derived.Test.YtdncfignegagjaaDoorR1
namespace Go.Proofs.YtdncfignegagjaaDoor
open Go.RowKit

/-! Reading a footage. -/
def mixParts (l : List UInt8) : List UInt8 × List UInt8 :=
  if (Lib.cut l [43]).2.2 = true then ((Lib.cut l [43]).1, (Lib.cut l [43]).2.1)
  else if 0 ≤ Lib.indexByte l 47 then ([48], l) else ((Lib.cut l [43]).1, [48, 47, 49])
def mixW (l : List UInt8) : (Int × Int) × Bool :=
  let a := intW (mixParts l).1 0 64
  let b := intW (Lib.cut (mixParts l).2 [47]).1 0 15
  let c := intW (Lib.cut (mixParts l).2 [47]).2.1 1 15
  if a.2 ≠ 0 ∨ b.2 ≠ 0 ∨ c.2 ≠ 0 then ((0, 0), false) else ((a.1 * c.1 + b.1, c.1), true)

theorem cut_le (l sep : List UInt8) : (Lib.cut l sep).1.length ≤ l.length ∧ (Lib.cut l sep).2.1.length ≤ l.length := by
  unfold Lib.cut; split <;> simp <;> omega
theorem mixParts_le (l : List UInt8) : (mixParts l).1.length ≤ l.length + 3 ∧ (mixParts l).2.length ≤ l.length + 3 := by
  have := cut_le l [43]
  unfold mixParts
  split
  · simp only; omega
  · split
    · simp
    · simp; omega

theorem cut_any (s : ByteArray) (c : UInt8) (w : World) (hT : Tabs w) (hs : s.size ≤ 1000100) :
    Calls Tryd.prog 68 #[.string s, .string ⟨#[c]⟩] w fun e w' => e = .returned (cutV (Lib.cut s.data.toList [c])) ∧ Below w.heap.size w w' := by
  obtain ⟨m, hm⟩ := hT.maxl
  refine (Tryd.strings_Cut s ⟨#[c]⟩ m w (by omega) hm).mono ?_
  rintro e w' ⟨rfl, n, rfl⟩
  exact ⟨rfl, below_drewN _ _⟩

def mixV (x : (Int × Int) × Bool) : Value := .tuple #[.agg #[.int .i64 x.1.1, .int .i64 x.1.2], .bool x.2]

set_option maxHeartbeats 4000000 in
set_option maxRecDepth 100000 in
theorem mix_any (s : ByteArray) (w : World) (hT : Tabs w) (hs : s.size ≤ 1000000) :
    Calls Tryd.prog 56 #[.string s] w fun e w' => e = .returned (mixV (mixW s.data.toList)) ∧ Below w.heap.size w w' := by
  have hb0 : Below w.heap.size w (w.alloc (.cells #[.int .i64 0, .int .i64 0] 37)) := (Below.refl _ _).alloc (Nat.le_refl _) _
  have HT0 := Lib.hid (hT.below hb0)
  have hle := mixParts_le s.data.toList
  rw [len_eq] at hle
  have hcut := fun w hT => cut_any s 43 w hT (by omega)
  have hcon := fun w => Tryd.strings_Contains_one s 47 w
  -- the three ways to the parts
  have hways : ((Lib.cut s.data.toList [43]).2.2 = false ∧ decide (0 ≤ Lib.indexByte s.data.toList 47) = true ∧ mixParts s.data.toList = ([48], s.data.toList)) ∨
      ((Lib.cut s.data.toList [43]).2.2 = false ∧ decide (0 ≤ Lib.indexByte s.data.toList 47) = false ∧ mixParts s.data.toList = ((Lib.cut s.data.toList [43]).1, [48, 47, 49])) ∨
      ((Lib.cut s.data.toList [43]).2.2 = true ∧ decide (0 ≤ Lib.indexByte s.data.toList 47) = decide (0 ≤ Lib.indexByte s.data.toList 47) ∧ mixParts s.data.toList = ((Lib.cut s.data.toList [43]).1, (Lib.cut s.data.toList [43]).2.1)) := by
    unfold mixParts
    cases h1 : (Lib.cut s.data.toList [43]).2.2
    · by_cases h2 : 0 ≤ Lib.indexByte s.data.toList 47
      · left; simp [h2]
      · right; left; simp [h2]
    · right; right; simp
  have hmix : mixW s.data.toList = if (intW (mixParts s.data.toList).1 0 64).2 ≠ 0 ∨ (intW (Lib.cut (mixParts s.data.toList).2 [47]).1 0 15).2 ≠ 0 ∨ (intW (Lib.cut (mixParts s.data.toList).2 [47]).2.1 1 15).2 ≠ 0 then ((0, 0), false)
    else (((intW (mixParts s.data.toList).1 0 64).1 * (intW (Lib.cut (mixParts s.data.toList).2 [47]).2.1 1 15).1 + (intW (Lib.cut (mixParts s.data.toList).2 [47]).1 0 15).1, (intW (Lib.cut (mixParts s.data.toList).2 [47]).2.1 1 15).1), true) := rfl
  generalize hp : mixParts s.data.toList = p at *
  obtain ⟨wh, fr⟩ := p
  simp only at hle hmix
  have hq := cut_le fr [47]
  have hcut2 := fun w hT => cut_any ⟨fr.toArray⟩ 47 w hT (by show fr.length ≤ _; omega)
  try simp only at hcut2
  generalize hx : Lib.cut fr [47] = x at *
  obtain ⟨ov, un, bq⟩ := x
  simp only [cutV] at hq hcut2 hmix
  have ha := fun w hT => int_any ⟨wh.toArray⟩ 0 64 w hT (by show wh.length ≤ _; omega)
  have hb := fun w hT => int_any ⟨ov.toArray⟩ 0 15 w hT (by show ov.length ≤ _; omega)
  have hc := fun w hT => int_any ⟨un.toArray⟩ 1 15 w hT (by show un.length ≤ _; omega)
  have ba := @intW_bounds wh 0 64
  have bb := @intW_bounds ov 0 15
  have bc := @intW_bounds un 1 15
  try simp only at ha hb hc
  generalize hia : intW wh 0 64 = a at *
  generalize hib : intW ov 0 15 = b at *
  generalize hic : intW un 1 15 = c at *
  obtain ⟨a, ea⟩ := a
  obtain ⟨b, eb⟩ := b
  obtain ⟨c, ec⟩ := c
  simp only [intV] at ha hb hc hmix ba bb bc
  have HA := Lib.hid ha
  have HB := Lib.hid hb
  have HC := Lib.hid hc
  have HQ := Lib.hid hcut2
  have HM := Lib.hid hmix
  generalize hy : Lib.cut s.data.toList [43] = y at *
  obtain ⟨y1, y2, yb⟩ := y
  simp only [cutV] at hcut hways
  have HCUT := Lib.hid hcut
  generalize hz : decide (0 ≤ Lib.indexByte s.data.toList 47) = z at *
  have HCON := Lib.hid hcon
  clear hT ha hb hc hcut2 hmix hcut hcon hx hia hib hic hy hz
  by_cases hea : ea = 0
  · by_cases heb : eb = 0
    · by_cases hec : ec = 0
      · have ba := ba hea
        have bb := bb heb
        have bc := bc hec
        subst hea heb hec
        have hf := Lib.hid (show mixW s.data.toList = ((a * c + b, c), true) by rw [HM.out]; simp)
        have hm0 : 0 ≤ a * c := Int.mul_nonneg (by omega) (by omega)
        have hm1 : a * c ≤ 64 * 15 := Int.mul_le_mul (by omega) (by omega) (by omega) (by omega)
        clear HM
        rcases hways with ⟨rfl, rfl, e⟩ | ⟨rfl, rfl, e⟩ | ⟨rfl, -, e⟩
        all_goals
          obtain ⟨rfl, rfl⟩ := Prod.mk.inj e
          clear e
          go_enter Tryd.func56, Tryd.ntmps56
          go_wp2_with fail
          refine (HCUT.out _ HT0.out).mono ?_
          rintro e w1 ⟨rfl, hb1⟩
          go_wp2_with fail
          try (refine (HCON.out _).mono ?_; rintro e w1' ⟨rfl, rfl⟩; go_wp2_with fail)
          refine (HQ.out _ (HT0.out.below hb1)).mono ?_
          rintro e w2 ⟨rfl, hb2⟩
          have hb2 := hb1.trans (hb2.mono hb1.size)
          go_wp2_with fail
          refine (HA.out _ (HT0.out.below hb2)).mono ?_
          rintro e w3 ⟨rfl, hb3⟩
          have hb3 := hb2.trans (hb3.mono hb2.size)
          go_wp2_with fail
          refine (HB.out _ (HT0.out.below hb3)).mono ?_
          rintro e w4 ⟨rfl, hb4⟩
          have hb4 := hb3.trans (hb4.mono hb3.size)
          go_wp2_with fail
          refine (HC.out _ (HT0.out.below hb4)).mono ?_
          rintro e w5 ⟨rfl, hb5⟩
          have hb5 := hb4.trans (hb5.mono hb4.size)
          obtain ⟨c0, c1, f0, f1, hlt⟩ := new2 hb5
          have hbf := hb0.trans (hb5.mono hb0.size)
          go_wp2_with fail
          refine bodyPost_ret (v := .tuple #[.agg #[.int .i64 (a * c + b), .int .i64 c], .bool true]) (by simp [results, Tryd.results56, c0, c1, go_sem]) rfl ⟨?_, ?_⟩
          · rw [hf.out]; rfl
          · exact (hbf.setCell (p := ⟨w.heap.size, 0, none⟩) (Nat.le_refl _) _).setCell (p := ⟨w.heap.size, 1, none⟩) (Nat.le_refl _) _
      · have hf := Lib.hid (show mixW s.data.toList = ((0, 0), false) by rw [HM.out, if_pos (by simp [hec])])
        have q1 : (ec == 0) = false := by simp [hec]
        have q2 : (ec != 0) = true := by simp [hec]
        clear hec HM
        rcases hways with ⟨rfl, rfl, e⟩ | ⟨rfl, rfl, e⟩ | ⟨rfl, -, e⟩
        all_goals
          obtain ⟨rfl, rfl⟩ := Prod.mk.inj e
          clear e
          go_enter Tryd.func56, Tryd.ntmps56
          go_wp2_with fail
          refine (HCUT.out _ HT0.out).mono ?_
          rintro e w1 ⟨rfl, hb1⟩
          go_wp2_with fail
          try (refine (HCON.out _).mono ?_; rintro e w1' ⟨rfl, rfl⟩; go_wp2_with fail)
          refine (HQ.out _ (HT0.out.below hb1)).mono ?_
          rintro e w2 ⟨rfl, hb2⟩
          have hb2 := hb1.trans (hb2.mono hb1.size)
          go_wp2_with fail
          refine (HA.out _ (HT0.out.below hb2)).mono ?_
          rintro e w3 ⟨rfl, hb3⟩
          have hb3 := hb2.trans (hb3.mono hb2.size)
          go_wp2_with fail
          refine (HB.out _ (HT0.out.below hb3)).mono ?_
          rintro e w4 ⟨rfl, hb4⟩
          have hb4 := hb3.trans (hb4.mono hb3.size)
          go_wp2_with fail
          refine (HC.out _ (HT0.out.below hb4)).mono ?_
          rintro e w5 ⟨rfl, hb5⟩
          have hb5 := hb4.trans (hb5.mono hb4.size)
          obtain ⟨c0, c1, f0, f1, hlt⟩ := new2 hb5
          have hbf := hb0.trans (hb5.mono hb0.size)
          go_wp2_with fail
          refine bodyPost_ret (v := .tuple #[.agg #[.int .i64 0, .int .i64 0], .bool false]) (by simp [results, Tryd.results56, c0, c1, go_sem]) rfl ⟨?_, ?_⟩
          · rw [hf.out]; rfl
          · exact (hbf.setCell (p := ⟨w.heap.size, 0, none⟩) (Nat.le_refl _) _).setCell (p := ⟨w.heap.size, 1, none⟩) (Nat.le_refl _) _
    · have hf := Lib.hid (show mixW s.data.toList = ((0, 0), false) by rw [HM.out, if_pos (by simp [heb])])
      have q1 : (eb == 0) = false := by simp [heb]
      have q2 : (eb != 0) = true := by simp [heb]
      clear heb HM
      rcases hways with ⟨rfl, rfl, e⟩ | ⟨rfl, rfl, e⟩ | ⟨rfl, -, e⟩
      all_goals
        obtain ⟨rfl, rfl⟩ := Prod.mk.inj e
        clear e
        go_enter Tryd.func56, Tryd.ntmps56
        go_wp2_with fail
        refine (HCUT.out _ HT0.out).mono ?_
        rintro e w1 ⟨rfl, hb1⟩
        go_wp2_with fail
        try (refine (HCON.out _).mono ?_; rintro e w1' ⟨rfl, rfl⟩; go_wp2_with fail)
        refine (HQ.out _ (HT0.out.below hb1)).mono ?_
        rintro e w2 ⟨rfl, hb2⟩
        have hb2 := hb1.trans (hb2.mono hb1.size)
        go_wp2_with fail
        refine (HA.out _ (HT0.out.below hb2)).mono ?_
        rintro e w3 ⟨rfl, hb3⟩
        have hb3 := hb2.trans (hb3.mono hb2.size)
        go_wp2_with fail
        refine (HB.out _ (HT0.out.below hb3)).mono ?_
        rintro e w4 ⟨rfl, hb4⟩
        have hb4 := hb3.trans (hb4.mono hb3.size)
        go_wp2_with fail
        refine (HC.out _ (HT0.out.below hb4)).mono ?_
        rintro e w5 ⟨rfl, hb5⟩
        have hb5 := hb4.trans (hb5.mono hb4.size)
        obtain ⟨c0, c1, f0, f1, hlt⟩ := new2 hb5
        have hbf := hb0.trans (hb5.mono hb0.size)
        go_wp2_with fail
        refine bodyPost_ret (v := .tuple #[.agg #[.int .i64 0, .int .i64 0], .bool false]) (by simp [results, Tryd.results56, c0, c1, go_sem]) rfl ⟨?_, ?_⟩
        · rw [hf.out]; rfl
        · exact (hbf.setCell (p := ⟨w.heap.size, 0, none⟩) (Nat.le_refl _) _).setCell (p := ⟨w.heap.size, 1, none⟩) (Nat.le_refl _) _
  · have hf := Lib.hid (show mixW s.data.toList = ((0, 0), false) by rw [HM.out, if_pos (by simp [hea])])
    have q1 : (ea == 0) = false := by simp [hea]
    have q2 : (ea != 0) = true := by simp [hea]
    clear hea HM
    rcases hways with ⟨rfl, rfl, e⟩ | ⟨rfl, rfl, e⟩ | ⟨rfl, -, e⟩
    all_goals
      obtain ⟨rfl, rfl⟩ := Prod.mk.inj e
      clear e
      go_enter Tryd.func56, Tryd.ntmps56
      go_wp2_with fail
      refine (HCUT.out _ HT0.out).mono ?_
      rintro e w1 ⟨rfl, hb1⟩
      go_wp2_with fail
      try (refine (HCON.out _).mono ?_; rintro e w1' ⟨rfl, rfl⟩; go_wp2_with fail)
      refine (HQ.out _ (HT0.out.below hb1)).mono ?_
      rintro e w2 ⟨rfl, hb2⟩
      have hb2 := hb1.trans (hb2.mono hb1.size)
      go_wp2_with fail
      refine (HA.out _ (HT0.out.below hb2)).mono ?_
      rintro e w3 ⟨rfl, hb3⟩
      have hb3 := hb2.trans (hb3.mono hb2.size)
      go_wp2_with fail
      refine (HB.out _ (HT0.out.below hb3)).mono ?_
      rintro e w4 ⟨rfl, hb4⟩
      have hb4 := hb3.trans (hb4.mono hb3.size)
      go_wp2_with fail
      refine (HC.out _ (HT0.out.below hb4)).mono ?_
      rintro e w5 ⟨rfl, hb5⟩
      have hb5 := hb4.trans (hb5.mono hb4.size)
      obtain ⟨c0, c1, f0, f1, hlt⟩ := new2 hb5
      have hbf := hb0.trans (hb5.mono hb0.size)
      go_wp2_with fail
      refine bodyPost_ret (v := .tuple #[.agg #[.int .i64 0, .int .i64 0], .bool false]) (by simp [results, Tryd.results56, c0, c1, go_sem]) rfl ⟨?_, ?_⟩
      · rw [hf.out]; rfl
      · exact (hbf.setCell (p := ⟨w.heap.size, 0, none⟩) (Nat.le_refl _) _).setCell (p := ⟨w.heap.size, 1, none⟩) (Nat.le_refl _) _

end Go.Proofs.YtdncfignegagjaaDoor
