import Derived.Test.YtokkcmadgcdpiaaDoorKD1
namespace Go.Proofs.YtokkcmadgcdpiaaDoor
open Go.RowKit

/-! The law's size of terms. -/
def szOk (l : List (Int × Int)) : Prop := ∀ x ∈ l, 1 ≤ x.1 ∧ x.1 ≤ 1000000 ∧ -2000 ≤ x.2 ∧ x.2 ≤ 2000
def SzP (n : Nat) (l : List (Int × Int)) (s : Int) : Prop := s = 100000 ∨ (n ≤ 6 ∧ szOk l ∧ ∃ k : Nat, s = (k : Int) ∧ k ≤ 400000 ∧ (∀ x ∈ l, x.2.natAbs ≤ k) ∧ allP (natT l) ≤ 2 ^ k)
theorem natT_append (a b : List (Int × Int)) : natT (a ++ b) = natT a ++ natT b := by simp [natT]
theorem allP_term {l : List (Int × Int)} {n a : Int} {k b : Nat} (h : allP (natT l) ≤ 2 ^ k) (hn : n.toNat ≤ 2 ^ b) : allP (natT (l ++ [(n, a)])) ≤ 2 ^ (k + b * a.natAbs) := by
  rw [natT_append, allP_append, Nat.pow_add, Nat.pow_mul]
  refine Nat.mul_le_mul h ?_
  show n.toNat ^ a.natAbs * 1 ≤ _
  rw [Nat.mul_one]
  exact Nat.pow_le_pow_left hn _
def SzRel (w : World) (n : Nat) (l : List (Int × Int)) (tv iv : Value) (wr : World) : Prop :=
  ∃ i k : Nat, i ≤ n ∧ iv = .int .i64 (i : Int) ∧ tv = .int .i64 (k : Int) ∧ k ≤ 44000 * i ∧ szOk (l.take i) ∧ (∀ x ∈ l.take i, x.2.natAbs ≤ k) ∧ allP (natT (l.take i)) ≤ 2 ^ k ∧ Below w.heap.size w wr
def SiRel (m : Nat) (W : World) (pv bv : Value) (wr : World) : Prop := ∃ j : Nat, pv = .int .i64 ((m / 2 ^ j : Nat) : Int) ∧ bv = .int .i64 (j : Int) ∧ 2 ^ j ≤ 2 * m ∧ wr = W
set_option maxRecDepth 100000 in
set_option maxHeartbeats 2000000 in
theorem size_any (A : Option Addr) (n cap : Nat) (l : List (Int × Int)) (w : World) (h : n ≤ 6 → TmI w w.heap.size (.slice A n cap) l) :
    Calls Tryd.prog 38 #[.slice A n cap] w fun e w' => ∃ s : Int, e = .returned (.int .i64 s) ∧ SzP n l s ∧ Below w.heap.size w w' := by
  by_cases h6 : 6 < n
  · have h6I : (6 : Int) < (n : Int) := by omega
    clear h
    go_enter Tryd.func38, Tryd.ntmps38
    go_wp2
    go_ret
    exact ⟨_, rfl, .inl rfl, Below.refl _ _⟩
  have h6I : ¬ (6 : Int) < (n : Int) := by omega
  have hv := h (by omega)
  obtain ⟨A', cap', e, hcap, -⟩ := id hv
  have hln : n = l.length := by cases e; rfl
  have HV := Lib.hid hv
  clear hv h e hcap
  go_enter Tryd.func38, Tryd.ntmps38
  go_wp2
  go_loopw [3, 4] (fun tv iv wr => SzRel w n l tv iv wr) (fun _ iv _ => n - (intOf iv).toNat)
  case atStart => exact ⟨0, 0, Nat.zero_le _, rfl, rfl, by omega, fun x h => (by cases h), fun x h => (by cases h), Nat.le_refl _, Below.refl _ _⟩
  case round =>
    obtain ⟨i, k, hi, rfl, rfl, hk, hok, hex, hall, hb⟩ := hrel
    have HOK := Lib.hid hok
    have HALL := Lib.hid hall
    have HEX := Lib.hid hex
    have HB := Lib.hid hb
    clear hok hall hb hex
    by_cases hil : i < n
    · have hilI : (i : Int) < (n : Int) := by omega
      obtain ⟨x, hx⟩ : ∃ x, l[i]? = some x := ⟨l[i]'(by omega), List.getElem?_eq_getElem _⟩
      obtain ⟨A', cap', e, -, hh⟩ := HV.out.keep HB.out
      cases e
      obtain ⟨g, o, rfl, hg, hcells⟩ := hh (by intro e; rw [e] at hil; exact absurd hil (Nat.not_lt_zero _))
      obtain ⟨c0, c1⟩ := hcells i x hx
      have HX := Lib.hid hx
      clear hx hh hcells
      obtain ⟨p, a⟩ := x
      simp only at c0 c1
      go_wp2
      go_quiet (fail)
      have hbn : Below w.heap.size w (wr.drewN nq) := HB.out.trans ((Drawn.below ⟨nq, rfl⟩ : Below wr.heap.size wr (wr.drewN nq)).mono HB.out.size)
      have HBN := Lib.hid hbn
      clear HB hbn
      generalize wr.drewN nq = W1 at *
      by_cases p1 : p < 1
      case pos =>
        go_wp2
        go_ret
        exact ⟨_, rfl, .inl rfl, HBN.out⟩
      by_cases p2 : 1000000 < p
      case pos =>
        go_wp2
        go_ret
        exact ⟨_, rfl, .inl rfl, HBN.out⟩
      by_cases p3 : a < -2000
      case pos =>
        go_wp2
        go_ret
        exact ⟨_, rfl, .inl rfl, HBN.out⟩
      by_cases p4 : 2000 < a
      case pos =>
        go_wp2
        go_ret
        exact ⟨_, rfl, .inl rfl, HBN.out⟩
      obtain ⟨m, rfl⟩ := Int.eq_ofNat_of_zero_le (show 0 ≤ p by omega)
      go_wp2
      go_loopw [5, 7] (fun pv bv wr => SiRel m W1 pv bv wr) (fun pv _ _ => (intOf pv).toNat)
      case atStart => exact ⟨0, by simp, rfl, by omega, rfl⟩
      case round =>
        obtain ⟨j, rfl, rfl, hj, rfl⟩ := hrel
        have hj20 : j ≤ 20 := by
          rcases Nat.lt_or_ge 20 j with h | h
          · have := Nat.pow_le_pow_right (n := 2) (by omega) (show 21 ≤ j by omega)
            omega
          · exact h
        by_cases hz : m / 2 ^ j = 0
        · have hm : m < 2 ^ j := by
            rcases Nat.lt_or_ge m (2 ^ j) with h | h
            · exact h
            · have := Nat.div_pos h (Nat.pow_pos (by omega)); omega
          have HM := Lib.hid hm
          obtain ⟨P, hP⟩ : ∃ P, (j : Int) * max a (-a) = P := ⟨_, rfl⟩
          have hPn : P = ((j * a.natAbs : Nat) : Int) := by
            rw [← hP, Int.natCast_mul]; congr 1; omega
          have hPb : j * a.natAbs ≤ 20 * 2000 := Nat.mul_le_mul hj20 (by omega)
          have e1 : IntKind.i64.wrap P = P := IntWalk.i64_in _ (by omega)
          rw [hz]
          clear hz hm hj
          go_wp2
          refine ⟨⟨i + 1, k + j * a.natAbs, by omega, by go_num, by rw [Int.natCast_add, Int.natCast_mul], by omega, ?_, ?_, ?_, HBN.out⟩, by simp [intOf]; omega⟩
          · rw [List.take_add_one, HX.out]
            intro y hy
            rw [List.mem_append] at hy
            rcases hy with hy | hy
            · exact HOK.out y hy
            · have : y = ((m : Int), a) := by simpa using hy
              subst this
              exact ⟨by omega, by omega, by omega, by omega⟩
          · rw [List.take_add_one, HX.out]
            intro y hy
            rw [List.mem_append] at hy
            rcases hy with hy | hy
            · exact Nat.le_trans (HEX.out y hy) (Nat.le_add_right _ _)
            · have : y = ((m : Int), a) := by simpa using hy
              subst this
              have hj1 : 1 ≤ j := by
                rcases Nat.eq_zero_or_pos j with h | h
                · subst h; have := HM.out; simp at this; omega
                · exact h
              exact Nat.le_trans (Nat.le_mul_of_pos_left _ hj1) (Nat.le_add_left _ _)
          · rw [List.take_add_one, HX.out]
            exact allP_term HALL.out (Nat.le_of_lt HM.out)
        · have hz2 : m / 2 ^ (j + 1) = m / 2 ^ j / 2 := by rw [Nat.pow_succ, Nat.div_div_eq_div_mul]
          have hj2 : 2 ^ (j + 1) ≤ 2 * m := by
            rw [Nat.pow_succ]
            have : 2 ^ j ≤ m := by
              rcases Nat.lt_or_ge m (2 ^ j) with h | h
              · exact absurd (Nat.div_eq_of_lt h) hz
              · exact h
            omega
          have HZ := Lib.hid hz2
          have HJ := Lib.hid hj2
          have hle : m / 2 ^ j ≤ m := Nat.div_le_self _ _
          generalize m / 2 ^ j = q at *
          clear hz2 hj2 hj
          go_wp2
          refine ⟨⟨j + 1, ?_, by go_num, HJ.out, rfl⟩, ?_⟩
          · rw [HZ.out]; go_num
          · simp [intOf]; omega
    · obtain rfl : i = n := by omega
      go_wp2
      go_ret
      refine ⟨_, rfl, .inr ⟨by omega, ?_, k, rfl, by omega, ?_, ?_⟩, HB.out⟩
      · have := HOK.out; rwa [hln, List.take_length] at this
      · have := HEX.out; rwa [hln, List.take_length] at this
      · have := HALL.out; rwa [hln, List.take_length] at this
end Go.Proofs.YtokkcmadgcdpiaaDoor
