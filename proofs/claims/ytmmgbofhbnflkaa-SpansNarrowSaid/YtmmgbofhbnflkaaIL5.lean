import Derived.Test.YtmmgbofhbnflkaaIL4
import Derived.Test.YtmmgbofhbnflkaaIT0
namespace Go.Proofs.Ytmmgbofhbnflkaa
open Go.RowKit

theorem in_yes {n : Int} {c : Int × Int} (h : inW n c) (w : World) : Calls Try.prog 38 #[.int .i64 n, ivV c] w fun e w' => e = .returned (.bool true) ∧ Below w.heap.size w w' := by
  refine (in_any n c w).mono fun e w' ⟨he, hb⟩ => ⟨?_, hb⟩
  rw [he, decide_eq_true h.1, decide_eq_true h.2]
  rfl
theorem member {lo hi n : Int} (h : lo ≤ hi) : inW (lo + n % (hi - lo + 1)) (lo, hi) := by
  have h1 := Int.emod_nonneg n (show hi - lo + 1 ≠ 0 by omega)
  have h2 := Int.emod_lt_of_pos n (show 0 < hi - lo + 1 by omega)
  unfold inW
  simp only
  omega
theorem iv31_ok {a : Int × Int} (h : Iv31 a) : okB a.1 = true ∧ okB a.2 = true ∧ a.1 ≤ a.2 := by
  unfold Iv31 at h
  exact ⟨okB_of (by omega), okB_of (by omega), h.2.1⟩
theorem iv31_I64 {a : Int × Int} (h : Iv31 a) : I64 a.1 ∧ I64 a.2 := by
  unfold Iv31 at h
  unfold I64
  omega
theorem exam31 {a b : Int × Int} (ha : Iv31 a) (hb : Iv31 b) : examI [a, b] = 0 :=
  exam_two (iv31_ok ha).1 (iv31_ok ha).2.1 (iv31_ok ha).2.2 (iv31_ok hb).1 (iv31_ok hb).2.1 (iv31_ok hb).2.2
set_option maxRecDepth 100000 in
theorem lawInside_any (l0 l1 m0 m1 u v : Int) (w : World) (h0 : -2147483648 ≤ l0 ∧ l0 ≤ 2147483647) (h1 : -2147483648 ≤ l1 ∧ l1 ≤ 2147483647) (h2 : -2147483648 ≤ m0 ∧ m0 ≤ 2147483647) (h3 : -2147483648 ≤ m1 ∧ m1 ≤ 2147483647) (hu : 0 ≤ u ∧ u ≤ 4294967295) (hv : 0 ≤ v ∧ v ≤ 4294967295) :
    Calls Try.prog 7 #[.agg #[.int .i32 l0, .int .i32 l1, .int .i32 m0, .int .i32 m1, .int .u32 u, .int .u32 v]] w fun e w' => e = .returned (.bool true) ∧ Below w.heap.size w w' := by
  have HA := fun w => of_any l0 l1 u _ _ _ w h0 h1 hu rfl rfl rfl
  have HB := fun w => of_any m0 m1 v _ _ _ w h2 h3 hv rfl rfl rfl
  have Ia : Iv31 (min l0 l1, max l0 l1) := by unfold Iv31; simp only; omega
  have Ib : Iv31 (min m0 m1, max m0 m1) := by unfold Iv31; simp only; omega
  have hx := member (n := u) (show min l0 l1 ≤ max l0 l1 by omega)
  have hy := member (n := v) (show min m0 m1 ≤ max m0 m1 by omega)
  generalize min l0 l1 + u % (max l0 l1 - min l0 l1 + 1) = x at *
  generalize min m0 m1 + v % (max m0 m1 - min m0 m1 + 1) = y at *
  generalize min l0 l1 = a1 at *
  generalize max l0 l1 = a2 at *
  generalize min m0 m1 = b1 at *
  generalize max m0 m1 = b2 at *
  clear h0 h1 h2 h3 hu hv
  have hE := exam31 Ia Ib
  have i0 := inside 0 Ia Ib hx hy (.inl (by omega))
  have i1 := inside 1 Ia Ib hx hy (.inl (by omega))
  have i2 := inside 2 Ia Ib hx hy (.inl (by omega))
  have e0 : addW (a1, a2) (b1, b2) = (cornW 0 (a1, a2) (b1, b2), 0) := by unfold addW; rw [if_pos hE]; exact i0.1
  have e1 : subW (a1, a2) (b1, b2) = (cornW 1 (a1, a2) (b1, b2), 0) := by unfold subW; rw [if_pos hE]; exact i1.1
  have e2 : mulW (a1, a2) (b1, b2) = (cornW 2 (a1, a2) (b1, b2), 0) := by unfold mulW; rw [if_pos hE]; exact i2.1
  have O0 := fun w => add_any (a1, a2) (b1, b2) w (iv31_I64 Ia) (iv31_I64 Ib)
  have O1 := fun w => sub_any (a1, a2) (b1, b2) w (iv31_I64 Ia) (iv31_I64 Ib)
  have O2 := fun w => mul_any (a1, a2) (b1, b2) w (iv31_I64 Ia) (iv31_I64 Ib)
  have O3 := fun w => div_any (a1, a2) (b1, b2) w (iv31_I64 Ia) (iv31_I64 Ib)
  rw [e0] at O0
  rw [e1] at O1
  rw [e2] at O2
  have hX : -2147483648 ≤ x ∧ x ≤ 2147483648 := by unfold Iv31 at Ia; unfold inW at hx; simp only at Ia hx; omega
  have hY : -2147483648 ≤ y ∧ y ≤ 2147483648 := by unfold Iv31 at Ib; unfold inW at hy; simp only at Ib hy; omega
  have hz' : (decide (b1 ≤ 0) && decide (0 ≤ b2)) = false → ¬ (b1 ≤ 0 ∧ 0 ≤ b2) := by
    intro h hh
    rw [decide_eq_true hh.1, decide_eq_true hh.2] at h
    cases h
  refine inside_walk l0 l1 m0 m1 u v a1 a2 b1 b2 x y (cornW 0 (a1, a2) (b1, b2)).1 (cornW 0 (a1, a2) (b1, b2)).2 (valW 0 x y).1 (valW 0 x y).2
    (cornW 1 (a1, a2) (b1, b2)).1 (cornW 1 (a1, a2) (b1, b2)).2 (valW 1 x y).1 (valW 1 x y).2 (cornW 2 (a1, a2) (b1, b2)).1 (cornW 2 (a1, a2) (b1, b2)).2 (valW 2 x y).1 (valW 2 x y).2
    (divE (a1, a2) (b1, b2)).1.1 (divE (a1, a2) (b1, b2)).1.2 (valW 3 x y).1 (valW 3 x y).2 (divE (a1, a2) (b1, b2)).2 (decide (b1 ≤ 0) && decide (0 ≤ b2)) w
    HA HB (fun w => in_any 0 (b1, b2) w) ?_ ?_
    O0 (fun w => value_any 0 x y w hX hY (by omega) (by omega)) (fun w => in_yes i0.2.1 w) (fun w => in_yes i0.2.2 w) (fun w => corners_any 0 (a1, a2) (b1, b2) w Ia Ib (by omega) (by omega))
    O1 (fun w => value_any 1 x y w hX hY (by omega) (by omega)) (fun w => in_yes i1.2.1 w) (fun w => in_yes i1.2.2 w) (fun w => corners_any 1 (a1, a2) (b1, b2) w Ia Ib (by omega) (by omega))
    O2 (fun w => value_any 2 x y w hX hY (by omega) (by omega)) (fun w => in_yes i2.2.1 w) (fun w => in_yes i2.2.2 w) (fun w => corners_any 2 (a1, a2) (b1, b2) w Ia Ib (by omega) (by omega))
    O3 ?_ ?_ ?_ ?_
  · intro h
    rw [Bool.and_eq_true, decide_eq_true_eq, decide_eq_true_eq] at h
    unfold divE divW
    rw [if_pos hE, if_pos h]
  · intro h
    have hz := hz' h
    have i3 := inside 3 Ia Ib hx hy (.inr hz)
    have e3 : divE (a1, a2) (b1, b2) = (cornW 3 (a1, a2) (b1, b2), 0) := by unfold divE; rw [if_pos hE]; exact i3.1
    rw [e3]
  · intro h
    have hz := hz' h
    have i3 := inside 3 Ia Ib hx hy (.inr hz)
    have e3 : divE (a1, a2) (b1, b2) = (cornW 3 (a1, a2) (b1, b2), 0) := by unfold divE; rw [if_pos hE]; exact i3.1
    have hy0 : y ≠ 0 := by unfold inW at hy; simp only at hy; omega
    exact fun w => value_any 3 x y w hX hY (by omega) (fun _ => hy0)
  · intro h
    have hz := hz' h
    have i3 := inside 3 Ia Ib hx hy (.inr hz)
    have e3 : divE (a1, a2) (b1, b2) = (cornW 3 (a1, a2) (b1, b2), 0) := by unfold divE; rw [if_pos hE]; exact i3.1
    rw [e3]
    exact fun w => in_yes i3.2.1 w
  · intro h
    have hz := hz' h
    have i3 := inside 3 Ia Ib hx hy (.inr hz)
    have e3 : divE (a1, a2) (b1, b2) = (cornW 3 (a1, a2) (b1, b2), 0) := by unfold divE; rw [if_pos hE]; exact i3.1
    rw [e3]
    exact fun w => in_yes i3.2.2 w
  · intro h
    have hz := hz' h
    have i3 := inside 3 Ia Ib hx hy (.inr hz)
    have e3 : divE (a1, a2) (b1, b2) = (cornW 3 (a1, a2) (b1, b2), 0) := by unfold divE; rw [if_pos hE]; exact i3.1
    rw [e3]
    exact fun w => corners_any 3 (a1, a2) (b1, b2) w Ia Ib (by omega) (fun _ => hz)
end Go.Proofs.Ytmmgbofhbnflkaa
