import Derived.Test.YtmmgbofhbnflkaaIT1
import Derived.Test.YtmmgbofhbnflkaaIL5
namespace Go.Proofs.Ytmmgbofhbnflkaa
open Go.RowKit

theorem root_back {r1 r2 : Int} {n : Nat} (h0 : 0 ≤ r1) (h1 : r1 ≤ r2) (hn : 1 ≤ n) (hn' : n ≤ 62) (p1 : okB (r1 ^ n) = true) (p2 : okB (r2 ^ n) = true) (p3 : r1 ^ n ≤ r2 ^ n) (p4 : 0 ≤ r1 ^ n) (w : World) :
    Calls Try.prog 25 #[.agg #[.int .i64 (r1 ^ n), .int .i64 (r2 ^ n)], .int .i64 (n : Int)] w fun e w' => e = .returned (.tuple #[.agg #[.int .i64 r1, .int .i64 r2], .int .i64 0]) ∧ Below w.heap.size w w' := by
  have hx : examI [(r1 ^ n, r2 ^ n)] = 0 := exam_one p1 p2 p3
  refine (root_fn_any (r1 ^ n, r2 ^ n) n w ⟨okI p1, okI p2⟩ (by unfold I64; omega)).mono ?_
  rintro e w' ⟨r, he, hb, -, -, -, hr⟩
  have hr' := hr hx (by omega) (by omega) p4
  rw [Int.toNat_natCast] at hr'
  have := turn_root (a := (r1, r2)) h0 h1 hn hr'
  subst this
  exact ⟨he, hb⟩
set_option maxRecDepth 100000 in
theorem lawTurn_any (l0 l1 m0 m1 u v k : Int) (w : World) (h0 : -2147483648 ≤ l0 ∧ l0 ≤ 2147483647) (h1 : -2147483648 ≤ l1 ∧ l1 ≤ 2147483647) (hu : 0 ≤ u ∧ u ≤ 4294967295) (hk : 0 ≤ k ∧ k ≤ 255) :
    Calls Try.prog 9 #[.agg #[.int .i32 l0, .int .i32 l1, .int .i32 m0, .int .i32 m1, .int .u32 u, .int .u32 v], .int .u8 k] w fun e w' => e = .returned (.bool true) ∧ Below w.heap.size w w' := by
  have HA := fun w => of_any l0 l1 u _ _ _ w h0 h1 hu rfl rfl rfl
  obtain ⟨r1, hr1⟩ : ∃ r, max (min l0 l1) 0 = r := ⟨_, rfl⟩
  obtain ⟨r2, hr2⟩ : ∃ r, max (max l0 l1) 0 = r := ⟨_, rfl⟩
  have b1 : 0 ≤ r1 ∧ r1 ≤ 2147483648 := by omega
  have b2 : 0 ≤ r2 ∧ r2 ≤ 2147483648 := by omega
  have b3 : r1 ≤ r2 := by omega
  obtain ⟨n, hn⟩ : ∃ n : Nat, 1 + k % 62 = (n : Int) := ⟨(1 + k % 62).toNat, by omega⟩
  have n1 : 1 ≤ n := by omega
  have n2 : n ≤ 62 := by omega
  have s0 : 0 ≤ r1 % 1000000 := by omega
  have s1 : r1 % 1000000 ≤ r1 % 1000000 + r2 % 1000000 := by omega
  have s2 : r1 % 1000000 + r2 % 1000000 ≤ 1999998 := by omega
  obtain ⟨d1, d2, q1, q2, t1, t2, f1, f2, eD, eM, eP, eS, i1, i2, i3, i4, c1, c2, g1, g2, g3, g4⟩ := turn_disc s0 s1 s2
  have hs : I64 (r1 % 1000000) ∧ I64 (r1 % 1000000 + r2 % 1000000) := by unfold I64; omega
  have HD := fun w => disc_any (r1 % 1000000, r1 % 1000000 + r2 % 1000000) w hs
  have HM := fun w => mul_any (r1 % 1000000, r1 % 1000000 + r2 % 1000000) (r1 % 1000000, r1 % 1000000 + r2 % 1000000) w hs hs
  have HI := fun w => pi_any (q1, q2) w ⟨i3, i4⟩
  have HS := fun w => scale_any (d1, d2) 4 1 w ⟨i1, i2⟩ (by unfold I64; omega) (by unfold I64; omega)
  rw [eD] at HD
  rw [eM] at HM
  rw [eP] at HI
  rw [eS] at HS
  have HP := fun w => pow_any (r1, r2) (n : Int) w (by unfold I64; simp only; omega) (by unfold I64; omega)
  rcases turn_pow (a := (r1, r2)) b1.1 b3 b2.2 n1 n2 with ⟨ep, h3⟩ | ⟨ep, p1, p2, p3, p4⟩
  · rw [ep] at HP
    exact turn_walk l0 l1 m0 m1 u v k _ _ _ r1 r2 n 0 0 7 _ _ d1 d2 q1 q2 t1 t2 f1 f2 w HA HP (fun h => by cases h) HD HM HI HS hk hn.symm hr1 hr2 b1 b2 rfl rfl (.inl ⟨rfl, by omega⟩) (by omega) (by omega) g1 g2 g3 g4
  · rw [ep] at HP
    exact turn_walk l0 l1 m0 m1 u v k _ _ _ r1 r2 n (r1 ^ n) (r2 ^ n) 0 _ _ d1 d2 q1 q2 t1 t2 f1 f2 w HA HP (fun _ w => root_back b1.1 b3 n1 n2 p1 p2 p3 p4 w) HD HM HI HS hk hn.symm hr1 hr2 b1 b2 rfl rfl (.inr rfl) (by omega) (by omega) g1 g2 g3 g4
end Go.Proofs.Ytmmgbofhbnflkaa
