import Derived.Test.YtmmgbofhbnflkaaIQ10
import Derived.Test.YtmmgbofhbnflkaaI13
namespace Go.Proofs.Ytmmgbofhbnflkaa
open Go.RowKit

/-! The reference's results are the program's. -/
theorem upI_cast (x : Int) : upI x ((1 : Nat) : Int) = x := by unfold upI; rw [Int.natCast_one, Int.ediv_one]; omega
theorem cfl_one {n : Nat} (hn : n ≠ 3) (p q : Int) : cfl n p q = cnum n p q ∧ cup n p q = cnum n p q := by
  unfold cfl cup cden
  rw [if_neg hn]
  exact ⟨by rw [Int.natCast_one, Int.ediv_one], upI_cast _⟩
theorem two_add (a b : Int × Int) : twoW 0 a b = addW a b := by
  unfold twoW addW
  by_cases h : examI [a, b] = 0
  · obtain ⟨-, -, h1, h2⟩ := examI_two h
    rw [if_pos h, if_pos h, if_neg (by omega)]
    have e : ∀ p q, cfl 0 p q = p + q ∧ cup 0 p q = p + q := fun p q => cfl_one (by decide) p q
    have hmn : cmn 0 a b = a.1 + b.1 := by unfold cmn; simp only [(e _ _).1]; omega
    have hmx : cmx 0 a b = a.2 + b.2 := by unfold cmx; simp only [(e _ _).2]; omega
    rw [hmn, hmx]
  · rw [if_neg h, if_neg h]
theorem two_sub (a b : Int × Int) : twoW 1 a b = subW a b := by
  unfold twoW subW
  by_cases h : examI [a, b] = 0
  · obtain ⟨-, -, h1, h2⟩ := examI_two h
    rw [if_pos h, if_pos h, if_neg (by omega)]
    have e : ∀ p q, cfl 1 p q = p - q ∧ cup 1 p q = p - q := fun p q => cfl_one (by decide) p q
    have hmn : cmn 1 a b = a.1 - b.2 := by unfold cmn; simp only [(e _ _).1]; omega
    have hmx : cmx 1 a b = a.2 - b.1 := by unfold cmx; simp only [(e _ _).2]; omega
    rw [hmn, hmx]
  · rw [if_neg h, if_neg h]
theorem two_mul (a b : Int × Int) : twoW 2 a b = mulW a b := by
  unfold twoW mulW
  by_cases h : examI [a, b] = 0
  · rw [if_pos h, if_pos h, if_neg (by omega)]
    have e : ∀ p q, cfl 2 p q = p * q ∧ cup 2 p q = p * q := fun p q => cfl_one (by decide) p q
    have hmn : cmn 2 a b = minW a b := by unfold cmn minW; simp only [(e _ _).1]
    have hmx : cmx 2 a b = maxW a b := by unfold cmx maxW; simp only [(e _ _).2]
    rw [hmn, hmx]
    unfold prodsW
    rw [Int.ediv_one]
    rw [show upI (maxW a b) 1 = maxW a b from upI_cast (maxW a b)]
  · rw [if_neg h, if_neg h]
theorem div_bd {x y M : Int} (hM : 0 ≤ M) (h1 : -M ≤ x) (h2 : x ≤ M) (hy : 1 ≤ y) : -M ≤ x / y ∧ x / y ≤ M := by
  constructor
  · rw [Int.le_ediv_iff_mul_le (by omega)]
    have := Int.mul_le_mul_of_nonneg_left hy hM
    rw [Int.neg_mul]
    omega
  · have h3 : x / y ≤ M / y := Int.ediv_le_ediv (by omega) h2
    have h4 : M / y ≤ M := Int.ediv_le_self y hM
    omega
theorem quot_four {p1 p2 y1 y2 M : Int} (hM : 0 ≤ M) (h : p1 ≤ p2) (hl : -M ≤ p1) (hu : p2 ≤ M) (h1 : 1 ≤ y1) (h2 : 1 ≤ y2) :
    p1 / y1 ≤ p2 / y1 ∧ p1 / y2 ≤ p2 / y2 ∧ upI p1 y1 ≤ upI p2 y1 ∧ upI p1 y2 ≤ upI p2 y2 ∧ (-M ≤ p1 / y1 ∧ p1 / y1 ≤ M) ∧ (-M ≤ p1 / y2 ∧ p1 / y2 ≤ M) ∧ (-M ≤ upI p2 y1 ∧ upI p2 y1 ≤ M) ∧ (-M ≤ upI p2 y2 ∧ upI p2 y2 ≤ M) := by
  have e1 : p1 / y1 ≤ p2 / y1 := Int.ediv_le_ediv (by omega) h
  have e2 : p1 / y2 ≤ p2 / y2 := Int.ediv_le_ediv (by omega) h
  have e3 : -p2 / y1 ≤ -p1 / y1 := Int.ediv_le_ediv (by omega) (by omega)
  have e4 : -p2 / y2 ≤ -p1 / y2 := Int.ediv_le_ediv (by omega) (by omega)
  have b1 := div_bd hM hl (by omega) h1
  have b2 := div_bd hM hl (by omega) h2
  have b3 := div_bd (x := -p2) hM (by omega) (by omega) h1
  have b4 := div_bd (x := -p2) hM (by omega) (by omega) h2
  unfold upI
  exact ⟨e1, e2, by omega, by omega, b1, b2, by omega, by omega⟩
theorem two_div (a b : Int × Int) : twoW 3 a b = divE a b := by
  unfold twoW divE
  by_cases h : examI [a, b] = 0
  · obtain ⟨ha, hb, h1, h2⟩ := examI_two h
    rw [if_pos h, if_pos h]
    unfold divW
    by_cases hz : b.1 ≤ 0 ∧ 0 ≤ b.2
    · rw [if_pos ⟨rfl, hz⟩, if_pos hz]
    · rw [if_neg (fun h => hz h.2), if_neg hz]
      have oa1 := okB_iff.1 ha.1
      have oa2 := okB_iff.1 ha.2
      obtain ⟨M, hM⟩ : ∃ M : Int, M = 4611686018427387904 := ⟨_, rfl⟩
      rw [← hM] at oa1 oa2
      have hok : ∀ n : Int, -M ≤ n → n ≤ M → okB n = true := fun n h1 h2 => okB_iff.2 (by omega)
      have hM0 : 0 ≤ M := by omega
      clear hM
      have fin : ∀ lo hi x y : Int, lo = x → hi = y → (-M ≤ x ∧ x ≤ M) → (-M ≤ y ∧ y ≤ M) → spanW lo hi = ((x, y), 0) := by
        intro lo hi x y e1 e2 b1 b2
        rw [e1, e2]
        unfold spanW
        rw [hok x b1.1 b1.2, hok y b2.1 b2.2]
        rfl
      by_cases hneg : b.2 < 0
      · rw [if_pos hneg]
        have e : ∀ p q, q < 0 → cfl 3 p q = -p / -q ∧ cup 3 p q = upI (-p) (-q) := by
          intro p q hq
          have hden : (cden 3 q : Int) = -q := by unfold cden; rw [if_pos rfl]; omega
          have hnum : cnum 3 p q = -p := by show (if q < 0 then -p else p) = _; rw [if_pos hq]
          unfold cfl cup
          rw [hden, hnum]
          exact ⟨rfl, rfl⟩
        obtain ⟨q1, q2, q3, q4, q5, q6, q7, q8⟩ := quot_four (p1 := -a.2) (p2 := -a.1) (y1 := -b.2) (y2 := -b.1) hM0 (by omega) (by omega) (by omega) (by omega) (by omega)
        unfold quotW negI cmn cmx
        simp only [(e _ _ hneg).1, (e _ _ hneg).2, (e _ b.1 (by omega)).1, (e _ b.1 (by omega)).2]
        exact fin _ _ _ _ (by omega) (by omega) (by omega) (by omega)
      · rw [if_neg hneg]
        have e : ∀ p q, 0 < q → cfl 3 p q = p / q ∧ cup 3 p q = upI p q := by
          intro p q hq
          have hden : (cden 3 q : Int) = q := by unfold cden; rw [if_pos rfl]; omega
          have hnum : cnum 3 p q = p := by show (if q < 0 then -p else p) = _; rw [if_neg (by omega)]
          unfold cfl cup
          rw [hden, hnum]
          exact ⟨rfl, rfl⟩
        obtain ⟨q1, q2, q3, q4, q5, q6, q7, q8⟩ := quot_four (p1 := a.1) (p2 := a.2) (y1 := b.1) (y2 := b.2) hM0 (by omega) (by omega) (by omega) (by omega) (by omega)
        unfold quotW cmn cmx
        simp only [(e _ b.1 (by omega)).1, (e _ b.1 (by omega)).2, (e _ b.2 (by omega)).1, (e _ b.2 (by omega)).2]
        exact fin _ _ _ _ (by omega) (by omega) (by omega) (by omega)
  · rw [if_neg h, if_neg h]
theorem bad1_at (a : Int × Int) (W : World) (n : Nat) (hn : W.heap.size = n) :
    Calls Try.prog 46 #[.slice (some ⟨n, 0, none⟩) 1 1] (W.alloc (.cells #[.int .i64 a.1, .int .i64 a.2] 23)) fun e w' => e = .returned (.int .i64 (examI [a])) ∧ Below W.heap.size W w' := by
  subst hn
  refine (bad_any W.heap.size 1 [a] _ (by simp) ?_).mono fun e w' ⟨h1, h2⟩ => ⟨h1, (below_alloc W _).trans (h2.mono (below_alloc W _).size)⟩
  intro i c hc
  match i, hc with
  | 0, hc => simp at hc; subst hc; simp
set_option maxRecDepth 100000 in
set_option maxHeartbeats 1000000 in
theorem rcheck_any (a : Int × Int) (w : World) :
    Calls Try.prog 15 #[ivV a] w fun e w' => e = .returned (.int .i64 (examI [a])) ∧ Below w.heap.size w w' := by
  have hex := fun W n hn => bad1_at a W n hn
  have HEX := Lib.hid hex
  clear hex
  generalize examI [a] = er at *
  obtain ⟨a1, a2⟩ := a
  unfold ivV
  simp only at HEX ⊢
  have HB := Lib.hid (below_alloc w (.cells #[.int .i64 a1, .int .i64 a2] 23))
  go_enter Try.func15, Try.ntmps15
  go_wp2_with fail
  refine (HEX.out _ _ (by simp)).mono ?_
  rintro e w1 ⟨he, hb⟩
  subst he
  have HB2 := Lib.hid (Below.after HB.out hb)
  clear hb
  go_wp2_with fail
  go_ret
  exact ⟨rfl, HB2.out⟩
end Go.Proofs.Ytmmgbofhbnflkaa
