import Derived.Test.YtmmgbofhbnflkaaIL1
namespace Go.Proofs.Ytmmgbofhbnflkaa
open Go.RowKit

set_option maxRecDepth 100000 in
theorem value3 (x y : Int) (w : World) (hx : -4611686018427387904 ≤ x ∧ x ≤ 4611686018427387904) (hy : y ≠ 0) :
    Calls Try.prog 39 #[.int .i64 x, .int .i64 y, .int .i64 3] w fun e w' => e = .returned (.agg #[.int .i64 (downI x y), .int .i64 (-downI (-x) y)]) ∧ Below w.heap.size w w' := by
  have D1 := fun w => down_law x y w hx hy
  have D2 := fun w => down_law (-x) y w (by omega) hy
  have hb : -9223372036854775807 ≤ downI (-x) y ∧ downI (-x) y ≤ 9223372036854775807 := by
    rcases down_r (x := -x) hy with ⟨h1, h2⟩
    have h3 := tdiv_small (x := -x) y (by omega)
    by_cases c : (-x).tmod y ≠ 0 ∧ ¬((-x) < 0 ↔ y < 0)
    · rw [h1 c]; omega
    · rw [h2 c]; omega
  have e1 : wrap64 (-x) = -x := wrap64_of (by unfold I64; omega)
  have e2 : wrap64 (-downI (-x) y) = -downI (-x) y := wrap64_of (by unfold I64; omega)
  generalize downI x y = d1 at *
  generalize downI (-x) y = d2 at *
  have HD1 := Lib.hid D1
  have HD2 := Lib.hid D2
  have IV := Lib.hid iv_g
  clear D1 D2 hb hx hy
  go_enter Try.func39, Try.ntmps39
  go_wp2_with fail
  refine (HD1.out _).mono ?_
  rintro e w1 ⟨he, rfl⟩
  subst he
  go_wp2_with fail
  refine (HD2.out _).mono ?_
  rintro e w1 ⟨he, rfl⟩
  subst he
  go_wp2_with fail
  refine (IV.out d1 (-d2) _).mono ?_
  rintro e w1 ⟨he, hb⟩
  subst he
  have F1 := Fm.of1 hb
  obtain ⟨p, q, hr⟩ := F1.res
  have c30 := hr.c0
  have c31 := hr.c1
  have f30 := hr.f0
  have f31 := hr.f1
  have FB := Lib.hid F1
  clear hb F1 hr
  go_wp2_with fail
  refine bodyPost_ret (v := .agg #[.int .i64 d1, .int .i64 (-d2)]) (by simp [results, Try.results39, c30, c31, go_sem]) rfl ⟨rfl, (FB.out.set _ _).bl⟩

set_option maxRecDepth 100000 in
theorem value0 (x y : Int) (w : World) (h : I64 (x + y)) :
    Calls Try.prog 39 #[.int .i64 x, .int .i64 y, .int .i64 0] w fun e w' => e = .returned (.agg #[.int .i64 (x + y), .int .i64 (x + y)]) ∧ Below w.heap.size w w' := by
  have e1 : wrap64 (x + y) = x + y := wrap64_of h
  have IV := Lib.hid iv_g
  clear h
  go_enter Try.func39, Try.ntmps39
  go_wp2_with fail
  refine (IV.out (x + y) (x + y) _).mono ?_
  rintro e w1 ⟨he, hb⟩
  subst he
  have F1 := Fm.of1 hb
  obtain ⟨p, q, hr⟩ := F1.res
  have c30 := hr.c0
  have c31 := hr.c1
  have f30 := hr.f0
  have f31 := hr.f1
  have FB := Lib.hid F1
  clear hb F1 hr
  go_wp2_with fail
  refine bodyPost_ret (v := .agg #[.int .i64 (x + y), .int .i64 (x + y)]) (by simp [results, Try.results39, c30, c31, go_sem]) rfl ⟨rfl, (FB.out.set _ _).bl⟩

set_option maxRecDepth 100000 in
theorem value1 (x y : Int) (w : World) (h : I64 (x - y)) :
    Calls Try.prog 39 #[.int .i64 x, .int .i64 y, .int .i64 1] w fun e w' => e = .returned (.agg #[.int .i64 (x - y), .int .i64 (x - y)]) ∧ Below w.heap.size w w' := by
  have e1 : wrap64 (x - y) = x - y := wrap64_of h
  have IV := Lib.hid iv_g
  clear h
  go_enter Try.func39, Try.ntmps39
  go_wp2_with fail
  refine (IV.out (x - y) (x - y) _).mono ?_
  rintro e w1 ⟨he, hb⟩
  subst he
  have F1 := Fm.of1 hb
  obtain ⟨p, q, hr⟩ := F1.res
  have c30 := hr.c0
  have c31 := hr.c1
  have f30 := hr.f0
  have f31 := hr.f1
  have FB := Lib.hid F1
  clear hb F1 hr
  go_wp2_with fail
  refine bodyPost_ret (v := .agg #[.int .i64 (x - y), .int .i64 (x - y)]) (by simp [results, Try.results39, c30, c31, go_sem]) rfl ⟨rfl, (FB.out.set _ _).bl⟩

set_option maxRecDepth 100000 in
theorem value2 (x y : Int) (w : World) (h : I64 (x * y)) :
    Calls Try.prog 39 #[.int .i64 x, .int .i64 y, .int .i64 2] w fun e w' => e = .returned (.agg #[.int .i64 (x * y), .int .i64 (x * y)]) ∧ Below w.heap.size w w' := by
  have e1 : wrap64 (x * y) = x * y := wrap64_of h
  have IV := Lib.hid iv_g
  clear h
  go_enter Try.func39, Try.ntmps39
  go_wp2_with fail
  refine (IV.out (x * y) (x * y) _).mono ?_
  rintro e w1 ⟨he, hb⟩
  subst he
  have F1 := Fm.of1 hb
  obtain ⟨p, q, hr⟩ := F1.res
  have c30 := hr.c0
  have c31 := hr.c1
  have f30 := hr.f0
  have f31 := hr.f1
  have FB := Lib.hid F1
  clear hb F1 hr
  go_wp2_with fail
  refine bodyPost_ret (v := .agg #[.int .i64 (x * y), .int .i64 (x * y)]) (by simp [results, Try.results39, c30, c31, go_sem]) rfl ⟨rfl, (FB.out.set _ _).bl⟩

theorem value_any (which : Nat) (x y : Int) (w : World) (hx : -2147483648 ≤ x ∧ x ≤ 2147483648) (hy : -2147483648 ≤ y ∧ y ≤ 2147483648) (h0 : which ≤ 3) (h : which = 3 → y ≠ 0) :
    Calls Try.prog 39 #[.int .i64 x, .int .i64 y, .int .i64 (which : Int)] w fun e w' => e = .returned (ivV (valW which x y)) ∧ Below w.heap.size w w' := by
  have hm := mul31 hx hy
  have e : which = 0 ∨ which = 1 ∨ which = 2 ∨ which = 3 := by omega
  rcases e with rfl | rfl | rfl | rfl
  · exact value0 x y w (by unfold I64; omega)
  · exact value1 x y w (by unfold I64; omega)
  · exact value2 x y w (by unfold I64; omega)
  · exact value3 x y w (by omega) (h rfl)
end Go.Proofs.Ytmmgbofhbnflkaa
