import Derived.Test.YtmmgbofhbnflkaaI2x
namespace Go.Proofs.Ytmmgbofhbnflkaa
open Go.RowKit

theorem okB_no {n : Int} (h : n < -4611686018427387904 ∨ 4611686018427387904 < n) : okB n = false := by
  cases h' : okB n
  · rfl
  · rw [okB_iff] at h'; omega
theorem okB_yes {n : Int} (h : ¬ n < -4611686018427387904) (h' : ¬ 4611686018427387904 < n) : okB n = true := okB_iff.2 (by omega)
set_option maxRecDepth 100000 in
set_option maxHeartbeats 4000000 in
theorem bad_any (g cap : Nat) (ls : List (Int × Int)) (w : World) (hn : ls.length ≤ 1000)
    (hcells : ∀ (i : Nat) a, ls[i]? = some a → w.cell? ⟨g, i * 2, none⟩ = some (.int .i64 a.1) ∧ w.cell? ⟨g, i * 2 + 1, none⟩ = some (.int .i64 a.2)) :
    Calls Try.prog 46 #[.slice (some ⟨g, 0, none⟩) ls.length cap] w fun e w' => e = .returned (.int .i64 (examI ls)) ∧ Below w.heap.size w w' := by
  have HG := Lib.hid hcells
  clear hcells
  go_enter Try.func46, Try.ntmps46
  go_wp2_with fail
  go_loopw [3] (fun i wr => ExRel w ls (fun a => (okB a.1 && okB a.2) = true) i wr) (fun i _ => ls.length - (intOf i).toNat)
  case atStart => exact ⟨0, Nat.zero_le _, rfl, (fun j l hj => by omega), Below.refl _ _⟩
  case round =>
    obtain ⟨k, hk, rfl, hno, hb⟩ := hrel
    by_cases hlt : k < ls.length
    · obtain ⟨a, h1⟩ : ∃ a, ls[k]? = some a := ⟨ls[k], List.getElem?_eq_getElem hlt⟩
      obtain ⟨c0, c1⟩ := HG.out k a h1
      have c0 := cell_later hb c0
      have c1 := cell_later hb c1
      have HB := Lib.hid hb
      clear hb
      have hklt : (k : Int) < (ls.length : Int) := by omega
      have hk0 : (0 : Int) ≤ (k : Int) := Int.natCast_nonneg _
      have hbad : (okB a.1 && okB a.2) = false → examI ls = 7 := fun h => examI_bad h1 h
      have hno' : (okB a.1 && okB a.2) = true → ∀ (j : Nat) (l' : Int × Int), j < k + 1 → ls[j]? = some l' → (okB l'.1 && okB l'.2) = true := by
        intro hh j l' hj hl'
        rcases Nat.lt_or_ge j k with h | h
        · exact hno j l' h hl'
        · have : j = k := by omega
          subst this
          rw [h1] at hl'
          cases hl'
          exact hh
      clear h1 hno
      obtain ⟨x, y⟩ := a
      simp only at c0 c1 hbad hno'
      by_cases q1 : x < -4611686018427387904
      · have d1 : decide (x < -4611686018427387904) = true := decide_eq_true q1
        have HEX := Lib.hid (hbad (by rw [okB_no (.inl q1)]; rfl))
        clear hbad hno'
        go_wp2_with fail
        go_ret
        exact ⟨by rw [HEX.out]; rfl, HB.out⟩
      · have d1 : decide (x < -4611686018427387904) = false := decide_eq_false q1
        by_cases q2 : 4611686018427387904 < x
        · have d2 : decide (4611686018427387904 < x) = true := decide_eq_true q2
          have HEX := Lib.hid (hbad (by rw [okB_no (.inr q2)]; rfl))
          clear hbad hno'
          go_wp2_with fail
          go_ret
          exact ⟨by rw [HEX.out]; rfl, HB.out⟩
        · have d2 : decide (4611686018427387904 < x) = false := decide_eq_false q2
          by_cases q3 : y < -4611686018427387904
          · have d3 : decide (y < -4611686018427387904) = true := decide_eq_true q3
            have HEX := Lib.hid (hbad (by rw [okB_no (.inl q3), Bool.and_false]))
            clear hbad hno'
            go_wp2_with fail
            go_ret
            exact ⟨by rw [HEX.out]; rfl, HB.out⟩
          · have d3 : decide (y < -4611686018427387904) = false := decide_eq_false q3
            by_cases q4 : 4611686018427387904 < y
            · have d4 : decide (4611686018427387904 < y) = true := decide_eq_true q4
              have HEX := Lib.hid (hbad (by rw [okB_no (.inr q4), Bool.and_false]))
              clear hbad hno'
              go_wp2_with fail
              go_ret
              exact ⟨by rw [HEX.out]; rfl, HB.out⟩
            · have d4 : decide (4611686018427387904 < y) = false := decide_eq_false q4
              have HNO := Lib.hid (hno' (by rw [okB_yes q1 q2, okB_yes q3 q4]; rfl))
              clear hbad hno' q1 q2 q3 q4
              go_wp2_with fail
              first
                | exact ⟨⟨k + 1, by omega, by first | rfl | go_num, HNO.out, HB.out⟩, by simp [intOf]; omega⟩
                | (go_roundw
                   case rel => exact ⟨k + 1, by omega, by first | rfl | go_num, HNO.out, HB.out⟩
                   case measure => simp [intOf]; omega)
    · obtain rfl : k = ls.length := by omega
      have hsh := examI_fit hno
      have HSH := Lib.hid hsh
      have HB := Lib.hid hb
      clear hsh hno hb
      go_wp2_with fail
      go_loopw [4] (fun i wr' => ExRel w ls (fun a => a.1 ≤ a.2) i wr') (fun i _ => ls.length - (intOf i).toNat)
      case atStart => exact ⟨0, Nat.zero_le _, rfl, (fun j l hj => by omega), HB.out⟩
      case round =>
        clear hk HB
        obtain ⟨k, hk, rfl, hno, hb⟩ := hrel
        by_cases hlt2 : k < ls.length
        · obtain ⟨a, h1⟩ : ∃ a, ls[k]? = some a := ⟨ls[k], List.getElem?_eq_getElem hlt2⟩
          obtain ⟨c0, c1⟩ := HG.out k a h1
          have c0 := cell_later hb c0
          have c1 := cell_later hb c1
          have hb2 := fun n => hb.trans ((below_drewN _ n).mono hb.size)
          have HB2 := Lib.hid hb2
          have hklt : (k : Int) < (ls.length : Int) := by omega
          have hk0 : (0 : Int) ≤ (k : Int) := Int.natCast_nonneg _
          clear hb hb2
          by_cases hle : a.1 ≤ a.2
          · have hno' : ∀ (j : Nat) (l' : Int × Int), j < k + 1 → ls[j]? = some l' → l'.1 ≤ l'.2 := by
              intro j l' hj hl'
              rcases Nat.lt_or_ge j k with h | h
              · exact hno j l' h hl'
              · have : j = k := by omega
                subst this
                rw [h1] at hl'
                cases hl'
                exact hle
            have HNO := Lib.hid hno'
            have hgt : decide (a.2 < a.1) = false := decide_eq_false (by omega)
            clear hno hno' h1 hle
            go_wp2_with fail
            go_quiet (fail)
            go_wp2_with fail
            first
              | exact ⟨⟨k + 1, by omega, by first | rfl | go_num, HNO.out, HB2.out nq⟩, by simp [intOf]; omega⟩
              | (go_roundw
                 case rel => exact ⟨k + 1, by omega, by first | rfl | go_num, HNO.out, HB2.out nq⟩
                 case measure => simp [intOf]; omega)
          · have hall : ls.all (fun a => decide (a.1 ≤ a.2)) = false := by
              rw [List.all_eq_false]
              exact ⟨a, List.mem_of_getElem? h1, by simpa using hle⟩
            have hex := HSH.out
            rw [hall] at hex
            have HEX := Lib.hid hex
            have hgt : decide (a.2 < a.1) = true := decide_eq_true (by omega)
            clear hex hall hno h1 hle
            go_wp2_with fail
            go_quiet (fail)
            go_wp2_with fail
            go_ret
            exact ⟨by rw [HEX.out]; rfl, HB2.out nq⟩
        · obtain rfl : k = ls.length := by omega
          have hall : ls.all (fun a => decide (a.1 ≤ a.2)) = true := by
            rw [List.all_eq_true]
            intro l hl
            obtain ⟨j, hj⟩ := List.mem_iff_getElem?.1 hl
            exact decide_eq_true (hno j l (List.getElem?_eq_some_iff.1 hj).1 hj)
          have hex := HSH.out
          rw [hall] at hex
          have HEX := Lib.hid hex
          have HB := Lib.hid hb
          clear hex hall hno hb
          go_wp2_with fail
          go_ret
          exact ⟨by rw [HEX.out]; rfl, HB.out⟩
theorem bad2_at (a b : Int × Int) (W : World) (n : Nat) (hn : W.heap.size = n) :
    Calls Try.prog 46 #[.slice (some ⟨n, 0, none⟩) 2 2] (W.alloc (.cells #[.int .i64 a.1, .int .i64 a.2, .int .i64 b.1, .int .i64 b.2] 23)) fun e w' => e = .returned (.int .i64 (examI [a, b])) ∧ Below W.heap.size W w' := by
  subst hn
  refine (bad_any W.heap.size 2 [a, b] _ (by simp) ?_).mono fun e w' ⟨h1, h2⟩ => ⟨h1, (below_alloc W _).trans (h2.mono (below_alloc W _).size)⟩
  intro i c hc
  match i, hc with
  | 0, hc => simp at hc; subst hc; simp
  | 1, hc => simp at hc; subst hc; simp
end Go.Proofs.Ytmmgbofhbnflkaa
