import Derived.Test.YtmmgbofhbnflkaaIW1
import Derived.Test.YtmmgbofhbnflkaaIL5
namespace Go.Proofs.Ytmmgbofhbnflkaa
open Go.RowKit

theorem in_no {n : Int} {c : Int × Int} {z : Bool} (h : (decide (c.1 ≤ n) && decide (n ≤ c.2)) = z) (w : World) : Calls Try.prog 38 #[.int .i64 n, .agg #[.int .i64 c.1, .int .i64 c.2]] w fun e w' => e = .returned (.bool z) ∧ Below w.heap.size w w' := by
  rw [← h]
  exact in_any n c w
theorem in_at {n c d : Int} (h : c ≤ n ∧ n ≤ d) : ∀ w : World, Calls Try.prog 38 #[.int .i64 n, .agg #[.int .i64 c, .int .i64 d]] w fun e w' => e = .returned (.bool true) ∧ Below w.heap.size w w' :=
  fun w => in_yes (n := n) (c := (c, d)) h w
set_option maxRecDepth 100000 in
theorem lawNarrow_any (l0 l1 m0 m1 u v k : Int) (w : World) (h0 : -2147483648 ≤ l0 ∧ l0 ≤ 2147483647) (h1 : -2147483648 ≤ l1 ∧ l1 ≤ 2147483647) (h2 : -2147483648 ≤ m0 ∧ m0 ≤ 2147483647) (h3 : -2147483648 ≤ m1 ∧ m1 ≤ 2147483647) (hu : 0 ≤ u ∧ u ≤ 4294967295) (hv : 0 ≤ v ∧ v ≤ 4294967295) (hk : 0 ≤ k ∧ k ≤ 255) :
    Calls Try.prog 8 #[.agg #[.int .i32 l0, .int .i32 l1, .int .i32 m0, .int .i32 m1, .int .u32 u, .int .u32 v], .int .u8 k] w fun e w' => e = .returned (.bool true) ∧ Below w.heap.size w w' := by
  have HA := fun w => of_any l0 l1 u _ _ _ w h0 h1 hu rfl rfl rfl
  have HB := fun w => of_any m0 m1 v _ _ _ w h2 h3 hv rfl rfl rfl
  have Ia : Iv31 (min l0 l1, max l0 l1) := by unfold Iv31; simp only; omega
  have Ib : Iv31 (min m0 m1, max m0 m1) := by unfold Iv31; simp only; omega
  have hx := member (n := u) (show min l0 l1 ≤ max l0 l1 by omega)
  have hy := member (n := v) (show min m0 m1 ≤ max m0 m1 by omega)
  generalize min l0 l1 + u % (max l0 l1 - min l0 l1 + 1) = x at *
  generalize min m0 m1 + v % (max m0 m1 - min m0 m1 + 1) = y at *
  generalize min l0 l1 = a1 at *
  generalize max l0 l1 = a2 at *
  generalize min m0 m1 = b1 at *
  generalize max m0 m1 = b2 at *
  clear h0 h1 h2 h3 hu hv
  have Is : Iv31 (x, a2) := by unfold Iv31 inW at *; simp only at *; omega
  have It : Iv31 (b1, y) := by unfold Iv31 inW at *; simp only at *; omega
  have hE := exam31 Ia Ib
  have hEs := exam31 Is It
  have e1 := exam_one (iv31_ok Ia).1 (iv31_ok Ia).2.1 (iv31_ok Ia).2.2
  have e2 := exam_one (iv31_ok Is).1 (iv31_ok Is).2.1 (iv31_ok Is).2.2
  obtain ⟨⟨c1, c2⟩, ⟨d1, d2⟩, mu1, mu2, n1, n2⟩ := narrow_mul (s := (x, a2)) (t := (b1, y)) Ia Ib hx.1 Is.2.1 (Int.le_refl _) (Int.le_refl _) It.2.1 hy.2
  obtain ⟨n, hn⟩ : ∃ n : Nat, k % 3 = (n : Int) := ⟨(k % 3).toNat, by omega⟩
  obtain ⟨⟨g1, g2⟩, ⟨i1, i2⟩, p1', p2', n3, n4⟩ := narrow_pow (s := (x, a2)) Ia hx.1 Is.2.1 (Int.le_refl _) n (by omega)
  obtain ⟨⟨p1, p2⟩, ⟨o1, o2⟩, q1', q2', n5, n6⟩ := narrow_pi (s := (x, a2)) Ia hx.1 Is.2.1 (Int.le_refl _)
  obtain ⟨⟨s1, s2⟩, ⟨r1, r2⟩, b1', sm, so1, so2, b2', n7, n8⟩ := back_add Ia Ib
  have hEr : examI [(s1, s2), (b1, b2)] = 0 := exam_two so1 so2 sm (iv31_ok Ib).1 (iv31_ok Ib).2.1 (iv31_ok Ib).2.2
  have HM1 := fun w => mul_any (a1, a2) (b1, b2) w (iv31_I64 Ia) (iv31_I64 Ib)
  have HM2 := fun w => mul_any (x, a2) (b1, y) w (iv31_I64 Is) (iv31_I64 It)
  have HP1 := fun w => pow_any (a1, a2) (n : Int) w (iv31_I64 Ia) (by unfold I64; omega)
  have HP2 := fun w => pow_any (x, a2) (n : Int) w (iv31_I64 Is) (by unfold I64; omega)
  have HI1 := fun w => pi_any (a1, a2) w (iv31_I64 Ia)
  have HI2 := fun w => pi_any (x, a2) w (iv31_I64 Is)
  have HAD := fun w => add_any (a1, a2) (b1, b2) w (iv31_I64 Ia) (iv31_I64 Ib)
  have HSU := fun w => sub_any (s1, s2) (b1, b2) w ⟨okI so1, okI so2⟩ (iv31_I64 Ib)
  rw [show mulW (a1, a2) (b1, b2) = ((c1, c2), 0) by unfold mulW; rw [if_pos hE]; exact mu1] at HM1
  rw [show mulW (x, a2) (b1, y) = ((d1, d2), 0) by unfold mulW; rw [if_pos hEs]; exact mu2] at HM2
  rw [show powE (a1, a2) (n : Int) = ((g1, g2), 0) by unfold powE; rw [if_pos e1]; exact p1'] at HP1
  rw [show powE (x, a2) (n : Int) = ((i1, i2), 0) by unfold powE; rw [if_pos e2]; exact p2'] at HP2
  rw [show piE (a1, a2) = ((p1, p2), 0) by unfold piE; rw [if_pos e1]; exact q1'] at HI1
  rw [show piE (x, a2) = ((o1, o2), 0) by unfold piE; rw [if_pos e2]; exact q2'] at HI2
  rw [show addW (a1, a2) (b1, b2) = ((s1, s2), 0) by unfold addW; rw [if_pos hE]; exact b1'] at HAD
  rw [show subW (s1, s2) (b1, b2) = ((r1, r2), 0) by unfold subW; rw [if_pos hEr]; exact b2'] at HSU
  by_cases hz : b1 ≤ 0 ∧ 0 ≤ b2
  · have HZ := in_no (n := 0) (c := (b1, b2)) (z := true) (by rw [decide_eq_true hz.1, decide_eq_true hz.2]; rfl)
    exact narrow_walk l0 l1 m0 m1 u v k a1 a2 x b1 b2 y n c1 c2 d1 d2 g1 g2 i1 i2 p1 p2 o1 o2 s1 s2 r1 r2 0 0 0 0 true w HA HB HM1 HM2 HP1 HP2 HI1 HI2
      (in_at n1) (in_at n2) (in_at n3) (in_at n4) (in_at n5) (in_at n6) HAD HSU (in_at n7) (in_at n8) HZ (fun h => by cases h) (fun h => by cases h) (fun h => by cases h) (fun h => by cases h) hk hn.symm
  · obtain ⟨⟨q1, q2⟩, ⟨t1, t2⟩, f1', Iq, f2', n9, n10⟩ := back_div Ia Ib hz
    have HZ := in_no (n := 0) (c := (b1, b2)) (z := false) (by
      cases h : (decide ((b1, b2).1 ≤ 0) && decide (0 ≤ (b1, b2).2))
      · rfl
      · rw [Bool.and_eq_true, decide_eq_true_eq, decide_eq_true_eq] at h
        exact absurd h hz)
    have HDI := fun w => div_any (a1, a2) (b1, b2) w (iv31_I64 Ia) (iv31_I64 Ib)
    have HM3 := fun w => mul_any (q1, q2) (b1, b2) w (iv31_I64 Iq) (iv31_I64 Ib)
    rw [show divE (a1, a2) (b1, b2) = ((q1, q2), 0) by unfold divE; rw [if_pos hE]; exact f1'] at HDI
    rw [show mulW (q1, q2) (b1, b2) = ((t1, t2), 0) by unfold mulW; rw [if_pos (exam31 Iq Ib)]; exact f2'] at HM3
    exact narrow_walk l0 l1 m0 m1 u v k a1 a2 x b1 b2 y n c1 c2 d1 d2 g1 g2 i1 i2 p1 p2 o1 o2 s1 s2 r1 r2 q1 q2 t1 t2 false w HA HB HM1 HM2 HP1 HP2 HI1 HI2
      (in_at n1) (in_at n2) (in_at n3) (in_at n4) (in_at n5) (in_at n6) HAD HSU (in_at n7) (in_at n8) HZ (fun _ => HDI) (fun _ => HM3) (fun _ => in_at n9) (fun _ => in_at n10) hk hn.symm
end Go.Proofs.Ytmmgbofhbnflkaa
