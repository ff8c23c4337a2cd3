import Derived.Test.YtdncfignegagjaaDoorR9
namespace Go.Proofs.YtdncfignegagjaaDoor
open Go.RowKit

theorem new3 {w w' : World} {a b c : Value} {t : TypeId} (hb : Below (w.alloc (.cells #[a, b, c] t)).heap.size (w.alloc (.cells #[a, b, c] t)) w') :
    w'.cell? ⟨w.heap.size, 0, none⟩ = some a ∧ w'.cell? ⟨w.heap.size, 1, none⟩ = some b ∧ w'.cell? ⟨w.heap.size, 2, none⟩ = some c ∧ w.heap.size < w'.heap.size := by
  have c0 : (w.alloc (.cells #[a, b, c] t)).cell? ⟨w.heap.size, 0, none⟩ = some a := by simp
  have c1 : (w.alloc (.cells #[a, b, c] t)).cell? ⟨w.heap.size, 1, none⟩ = some b := by simp
  have c2 : (w.alloc (.cells #[a, b, c] t)).cell? ⟨w.heap.size, 2, none⟩ = some c := by simp
  have hs := hb.size
  exact ⟨cell_later hb c0, cell_later hb c1, cell_later hb c2, by simp at hs; omega⟩

set_option maxRecDepth 100000 in
set_option maxHeartbeats 2000000 in
theorem lawNumbers_any (n : Int) (s : ByteArray) (a b : Int) (w : World) (hT : Tabs w) (hs : s.size ≤ maxLen) (hn : -9223372036854775808 ≤ n ∧ n ≤ 9223372036854775807) :
    Calls Tryd.prog 4 #[.int .i64 n, .agg #[.string s, .int .i64 a, .int .i64 b]] w fun e w' => e = .returned (.bool true) ∧ Below w.heap.size w w' := by
  have hs0 := hs
  unfold maxLen at hs
  have hb0 : Below w.heap.size w (w.alloc (.cells #[.string s, .int .i64 a, .int .i64 b] 25)) := (Below.refl _ _).alloc (Nat.le_refl _) _
  have HT := Lib.hid (hT.below hb0)
  clear hT
  by_cases h : 20000 < s.size
  · go_enter Tryd.func4, Tryd.ntmps4
    go_wp2_with fail
    refine (shown_any _ HT.out).mono ?_
    rintro e w1 ⟨rfl, hb⟩
    go_wp2_with fail
    go_ret
    exact ⟨rfl, hb0.trans (hb.mono hb0.size)⟩
  · obtain ⟨D, hD⟩ : ∃ D : ByteArray, D = ⟨(Lib.itoa n).toArray⟩ := ⟨_, rfl⟩
    have hDl : D.data.toList = Lib.itoa n := by rw [hD]
    have hDs : D.size ≤ 281474976710656 := by
      have h1 := itoa_len20 n hn.1 hn.2
      rw [← hDl, len_eq] at h1; omega
    have c5 : Hid (∀ w, Tabs w → Calls Tryd.prog 18 #[.string D, .int .i64 (-9223372036854775808), .int .i64 9223372036854775807] w fun e w' => e = .returned (.tuple #[.int .i64 n, .int .i64 0]) ∧ Below w.heap.size w w') := by
      refine Lib.hid fun w hT => ?_
      have h1 := int_any D (-9223372036854775808) 9223372036854775807 w hT hDs
      rw [hDl, intW_itoa n hn.1 hn.2] at h1
      exact h1
    have c3 : Hid (∀ w, Tabs w → Calls Tryd.prog 20 #[.int .i64 n] w fun e w' => e = .returned (.string D) ∧ Below w.heap.size w w') := by
      refine Lib.hid fun w hT => ?_
      rw [hD]; exact digits_any n w hT hn.1 hn.2
    have c4 : Hid (∀ w, Calls Tryd.prog 21 #[.int .i64 n] w fun e w' => e = .returned (.string D) ∧ Below w.heap.size w w') := by
      refine Lib.hid fun w => ?_
      rw [hD]; exact rdigits_any n hn.1 hn.2 w
    generalize hx : intW s.data.toList a b = x
    have c1 := Lib.hid (fun w hT => by have := int_any s a b w hT (by omega); rwa [hx] at this)
    have c2 := Lib.hid (fun w => by have := rint_any s a b w hs0; rwa [hx] at this)
    obtain ⟨p, q⟩ := x
    simp only [intV] at c1 c2
    clear hx hD hDl hn
    go_enter Tryd.func4, Tryd.ntmps4
    go_wp2_with fail
    refine (c1.out _ HT.out).mono ?_
    rintro e w1 ⟨rfl, hb1⟩
    obtain ⟨k0, k1, k2, klt⟩ := new3 hb1
    go_wp2_with fail
    refine (c2.out _).mono ?_
    rintro e w2 ⟨rfl, hb2⟩
    have hb2 := hb1.trans (hb2.mono hb1.size)
    go_wp2_with fail
    refine (c3.out _ (HT.out.below hb2)).mono ?_
    rintro e w3 ⟨rfl, hb3⟩
    have hb3 := hb2.trans (hb3.mono hb2.size)
    go_wp2_with fail
    refine (c5.out _ (HT.out.below hb3)).mono ?_
    rintro e w4 ⟨rfl, hb4⟩
    have hb4 := hb3.trans (hb4.mono hb3.size)
    go_wp2_with fail
    refine (c3.out _ (HT.out.below hb4)).mono ?_
    rintro e w5 ⟨rfl, hb5⟩
    have hb5 := hb4.trans (hb5.mono hb4.size)
    go_wp2_with fail
    refine (c4.out _).mono ?_
    rintro e w6 ⟨rfl, hb6⟩
    have hb6 := hb5.trans (hb6.mono hb5.size)
    go_wp2_with fail
    refine (shown_any _ (HT.out.below hb6)).mono ?_
    rintro e w7 ⟨rfl, hb7⟩
    have hb7 := hb6.trans (hb7.mono hb6.size)
    go_wp2_with fail
    go_ret
    exact ⟨by simp, hb0.trans (hb7.mono hb0.size)⟩
end Go.Proofs.YtdncfignegagjaaDoor
