import Derived.Test.YtmmgbofhbnflkaaI12
namespace Go.Proofs.Ytmmgbofhbnflkaa
open Go.RowKit

theorem iv_any (x y : Int) (w : World) :
    Calls Try.prog 41 #[.int .i64 x, .int .i64 y] w fun e w' => e = .returned (.agg #[.int .i64 x, .int .i64 y]) ∧ Below w.heap.size w w' := by
  go_enter Try.func41, Try.ntmps41
  go_wp2_with fail
  refine bodyPost_ret (v := .agg #[.int .i64 x, .int .i64 y]) (by simp [results, Try.results41, go_sem]) rfl ⟨rfl, below_alloc w _⟩
theorem s_mul (w : World) : Calls Try.prog 16 #[.agg #[.int .i64 (-2), .int .i64 3], .agg #[.int .i64 (-7), .int .i64 1]] w fun e w' => e = .returned (.tuple #[.agg #[.int .i64 (-21), .int .i64 14], .int .i64 0]) ∧ Below w.heap.size w w' := by
  have h := mul_any (-2, 3) (-7, 1) w (by unfold I64; decide) (by unfold I64; decide)
  rw [show mulW (-2, 3) (-7, 1) = ((-21, 14), 0) from by decide] at h
  exact h
theorem s_div (w : World) : Calls Try.prog 18 #[.agg #[.int .i64 7, .int .i64 8], .agg #[.int .i64 2, .int .i64 3]] w fun e w' => e = .returned (.tuple #[.agg #[.int .i64 2, .int .i64 4], .int .i64 0]) ∧ Below w.heap.size w w' := by
  have h := div_any (7, 8) (2, 3) w (by unfold I64; decide) (by unfold I64; decide)
  rw [show divE (7, 8) (2, 3) = ((2, 4), 0) from by decide] at h
  exact h
theorem s_scale (w : World) : Calls Try.prog 21 #[.agg #[.int .i64 10, .int .i64 11], .int .i64 (-1), .int .i64 3] w fun e w' => e = .returned (.tuple #[.agg #[.int .i64 (-4), .int .i64 (-3)], .int .i64 0]) ∧ Below w.heap.size w w' := by
  have h := scale_any (10, 11) (-1) 3 w (by unfold I64; decide) (by unfold I64; decide) (by unfold I64; decide)
  rw [show scaleE (10, 11) (-1) 3 = ((-4, -3), 0) from by decide] at h
  exact h
theorem s_pow (w : World) : Calls Try.prog 23 #[.agg #[.int .i64 (-3), .int .i64 2], .int .i64 2] w fun e w' => e = .returned (.tuple #[.agg #[.int .i64 0, .int .i64 9], .int .i64 0]) ∧ Below w.heap.size w w' := by
  have h := pow_any (-3, 2) 2 w (by unfold I64; decide) (by unfold I64; decide)
  rw [show powE (-3, 2) 2 = ((0, 9), 0) from by decide +kernel] at h
  exact h
theorem s_pi (w : World) : Calls Try.prog 27 #[.agg #[.int .i64 1000000, .int .i64 1000000]] w fun e w' => e = .returned (.tuple #[.agg #[.int .i64 3141592, .int .i64 3141593], .int .i64 0]) ∧ Below w.heap.size w w' := by
  have h := pi_any (1000000, 1000000) w (by unfold I64; decide)
  rw [show piE (1000000, 1000000) = ((3141592, 3141593), 0) from by decide +kernel] at h
  exact h
theorem s_disc (w : World) : Calls Try.prog 29 #[.agg #[.int .i64 1000, .int .i64 1000]] w fun e w' => e = .returned (.tuple #[.agg #[.int .i64 785398, .int .i64 785399], .int .i64 0]) ∧ Below w.heap.size w w' := by
  have h := disc_any (1000, 1000) w (by unfold I64; decide)
  rw [show discE (1000, 1000) = ((785398, 785399), 0) from by decide +kernel] at h
  exact h
theorem s_root (w : World) : Calls Try.prog 25 #[.agg #[.int .i64 10, .int .i64 10], .int .i64 2] w fun e w' => e = .returned (.tuple #[.agg #[.int .i64 3, .int .i64 4], .int .i64 0]) ∧ Below w.heap.size w w' := by
  refine (root_fn_any (10, 10) 2 w (by unfold I64; decide) (by unfold I64; decide)).mono ?_
  rintro e w' ⟨r, he, hb, -, -, -, hr⟩
  obtain ⟨lo, hi, h1, h2, rfl⟩ := hr (by decide) (by omega) (by omega) (by decide)
  have e1 : lo = 3 := h1.uniq ⟨by omega, by decide, by decide⟩
  have e2 : hi = 3 := h2.uniq ⟨by omega, by decide, by decide⟩
  subst e1 e2
  exact ⟨he, hb⟩

end Go.Proofs.Ytmmgbofhbnflkaa
