import Derived.Test.YtmmgbofhbnflkaaI2x
import Derived.Test.YtmmgbofhbnflkaaI7
namespace Go.Proofs.Ytmmgbofhbnflkaa
open Go.RowKit

theorem floor_any (x y : Int) (w : World) (hx : -4611686018427387904 ≤ x ∧ x ≤ 4611686018427387904) (hy : 1 ≤ y ∧ y ≤ 9223372036854775807) :
    Calls Try.prog 48 #[.int .i64 x, .int .i64 y] w fun e w' => e = .returned (.int .i64 (x / y)) ∧ w = w' := by
  have h := floor_of_trunc (x := x) (y := y) (by omega)
  have hb := ediv_le' (a := x) (y := y) (by omega)
  rw [← h] at hb ⊢
  have ht : (x.tdiv y).natAbs ≤ x.natAbs := by rw [Int.natAbs_tdiv]; exact Nat.div_le_self _ _
  have h0 : ¬ y = 0 := by omega
  have HT : -4611686018427387904 ≤ x.tdiv y ∧ x.tdiv y ≤ 4611686018427387904 := by omega
  clear h hb ht
  by_cases hm : x.tmod y < 0
  · rw [if_pos hm]
    go_enter Try.func48, Try.ntmps48
    go_wp2_with fail
    go_ret
    exact ⟨rfl, rfl⟩
  · rw [if_neg hm]
    go_enter Try.func48, Try.ntmps48
    go_wp2_with fail
    go_ret
    exact ⟨rfl, rfl⟩
theorem ceiling_any (x y : Int) (w : World) (hx : -4611686018427387904 ≤ x ∧ x ≤ 4611686018427387904) (hy : 1 ≤ y ∧ y ≤ 9223372036854775807) :
    Calls Try.prog 49 #[.int .i64 x, .int .i64 y] w fun e w' => e = .returned (.int .i64 (upI x y)) ∧ w = w' := by
  have h := fun w => floor_any (-x) y w (by omega) hy
  have hb := ediv_le' (a := -x) (y := y) (by omega)
  have HB : -4611686018427387904 ≤ -x / y ∧ -x / y ≤ 4611686018427387904 := by omega
  unfold upI
  have HF := Lib.hid h
  clear h hb
  generalize -x / y = q at *
  go_enter Try.func49, Try.ntmps49
  go_wp2_with fail
  refine (HF.out _).mono ?_
  rintro e w1 ⟨he, rfl⟩
  subst he
  go_wp2_with fail
  go_ret
  exact ⟨rfl, rfl⟩

theorem sizes_any (a : Int × Int) (w : World) (h1 : okB a.1 = true) (h2 : okB a.2 = true) :
    Calls Try.prog 55 #[ivV a] w fun e w' => e = .returned (ivV (sizesI a)) ∧ Below w.heap.size w w' := by
  obtain ⟨x, y⟩ := a
  have hm := fun w => minus_any (x, y) w h1 h2
  have HM := Lib.hid hm
  rw [okB_iff] at h1 h2
  simp only at h1 h2
  unfold sizesI negI at *
  simp only at HM ⊢
  unfold ivV at *
  simp only at HM
  have F := Fm.of2 (w := w) (x := .int .i64 x) (y := .int .i64 y) (p := .int .i64 0) (q := .int .i64 0) (s := 23) (r := 23) (Below.refl _ _)
  clear hm
  by_cases c1 : 0 ≤ x
  · rw [if_pos c1]
    go_enter Try.func55, Try.ntmps55
    go_wp2_with fail
    refine bodyPost_ret (v := .agg #[.int .i64 x, .int .i64 y]) (by simp [results, Try.results55, go_sem]) rfl ⟨rfl, ?_⟩
    exact below_alloc2 w _ _
  · rw [if_neg c1]
    by_cases c2 : y ≤ 0
    · rw [if_pos c2]
      go_enter Try.func55, Try.ntmps55
      go_wp2_with fail
      refine (HM.out _).mono ?_
      rintro e w1 ⟨he, hb⟩
      subst he
      have F2 := Fm.of2 hb
      obtain ⟨p, q, hr⟩ := F2.res
      have c30 := hr.c0
      have c31 := hr.c1
      have f30 := hr.f0
      have f31 := hr.f1
      have FB := Lib.hid F2
      clear F F2 hr hb
      go_wp2_with fail
      refine bodyPost_ret (v := .agg #[.int .i64 (-y), .int .i64 (-x)]) (by simp [results, Try.results55, c30, c31, go_sem]) rfl ⟨rfl, (FB.out.set _ _).bl⟩
    · rw [if_neg c2]
      go_enter Try.func55, Try.ntmps55
      go_wp2_with fail
      refine bodyPost_ret (v := .agg #[.int .i64 0, .int .i64 (max (-x) y)]) (by simp [results, Try.results55, go_sem]) rfl ⟨rfl, ?_⟩
      exact below_alloc2 w _ _
end Go.Proofs.Ytmmgbofhbnflkaa
