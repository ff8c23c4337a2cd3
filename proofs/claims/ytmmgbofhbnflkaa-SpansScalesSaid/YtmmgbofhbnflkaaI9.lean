import Derived.Test.YtmmgbofhbnflkaaI6
import Derived.Test.YtmmgbofhbnflkaaI8
namespace Go.Proofs.Ytmmgbofhbnflkaa
open Go.RowKit

theorem okI {n : Int} (h : okB n = true) : I64 n := by rw [okB_iff] at h; unfold I64; omega
def mulW (a b : Int × Int) : (Int × Int) × Int := if examI [a, b] = 0 then prodsW a b 1 else ((0, 0), examI [a, b])
def piE (a : Int × Int) : (Int × Int) × Int := if examI [a] = 0 then piW a else ((0, 0), examI [a])
def discE (a : Int × Int) : (Int × Int) × Int := if examI [a] = 0 then discW a else ((0, 0), examI [a])
def scaleE (a : Int × Int) (num den : Int) : (Int × Int) × Int := if examI [a] = 0 then scaleW a num den else ((0, 0), examI [a])

set_option maxRecDepth 100000 in
set_option maxHeartbeats 1000000 in
theorem mul_any (a b : Int × Int) (w : World) (ha : I64 a.1 ∧ I64 a.2) (hb : I64 b.1 ∧ I64 b.2) :
    Calls Try.prog 16 #[ivV a, ivV b] w fun e w' => e = .returned (ivE (mulW a b)) ∧ Below w.heap.size w w' := by
  have hex := fun W n hn => exam2_at a b W n hn ha hb
  have hno : ¬ examI [a, b] = 0 → ivE (mulW a b) = .tuple #[.agg #[.int .i64 0, .int .i64 0], .int .i64 (examI [a, b])] := fun h => by unfold mulW; rw [if_neg h]; rfl
  have hyes : examI [a, b] = 0 → ∃ x y ee, ivE (mulW a b) = .tuple #[.agg #[.int .i64 x, .int .i64 y], .int .i64 ee] ∧ ∀ W, Calls Try.prog 47 #[ivV a, ivV b, .int .i64 1] W fun e' w' => e' = .returned (.tuple #[.agg #[.int .i64 x, .int .i64 y], .int .i64 ee]) ∧ Below W.heap.size W w' := fun h => by
    refine ⟨(mulW a b).1.1, (mulW a b).1.2, (mulW a b).2, rfl, fun W => ?_⟩
    unfold mulW
    rw [if_pos h]
    exact productsOver_any a b 1 W ha hb (by omega)
  clear ha hb
  have HEX := Lib.hid hex
  clear hex
  obtain ⟨er, her⟩ : ∃ er, er = examI [a, b] := ⟨_, rfl⟩
  rw [← her] at HEX hno hyes
  clear her
  generalize ivE (mulW a b) = R at *
  unfold ivV at *
  by_cases h0 : er = 0
  · subst h0
    obtain ⟨x, y, ee, rfl, hs⟩ := hyes rfl
    have HS := Lib.hid hs
    clear hno hyes hs
    go_enter Try.func16, Try.ntmps16
    go_wp2_with fail
    refine (HEX.out _ _ (by simp)).mono ?_
    rintro e w1 ⟨he, hb⟩
    subst he
    have F1 := Fm.of3 hb
    have c10 := F1.k0.c0
    have c11 := F1.k0.c1
    have c20 := F1.k1.c0
    have c21 := F1.k1.c1
    clear hb
    have F1' := Lib.hid F1
    clear F1
    go_wp2_with fail
    refine (HS.out _).mono ?_
    rintro e w2 ⟨he, hb⟩
    subst he
    have F2 := F1'.out.later hb
    obtain ⟨p, q, hr⟩ := F2.res
    have c30 := hr.c0
    have c31 := hr.c1
    have f30 := hr.f0
    have f31 := hr.f1
    have FB := Lib.hid F2
    clear hb F2 hr
    go_wp2_with fail
    refine bodyPost_ret (v := .tuple #[.agg #[.int .i64 x, .int .i64 y], .int .i64 ee]) (by simp [results, Try.results16, c30, c31, go_sem]) rfl ⟨rfl, (FB.out.set _ _).bl⟩
  · have q1 : (er == 0) = false := by simp [h0]
    have q2 : (er != 0) = true := by simp [h0]
    obtain rfl := hno h0
    clear hno hyes h0
    go_enter Try.func16, Try.ntmps16
    go_wp2_with fail
    refine (HEX.out _ _ (by simp)).mono ?_
    rintro e w1 ⟨he, hb⟩
    subst he
    have F1 := Fm.of3 hb
    obtain ⟨p, q, hr⟩ := F1.res
    have c30 := hr.c0
    have c31 := hr.c1
    have f30 := hr.f0
    have f31 := hr.f1
    have FB := Lib.hid F1
    clear hb F1 hr
    go_wp2_with fail
    refine bodyPost_ret (v := .tuple #[.agg #[.int .i64 0, .int .i64 0], .int .i64 er]) (by simp [results, Try.results16, c30, c31, go_sem]) rfl ⟨rfl, (FB.out.set _ _).bl⟩

set_option maxRecDepth 100000 in
set_option maxHeartbeats 1000000 in
theorem pi_any (a : Int × Int) (w : World) (ha : I64 a.1 ∧ I64 a.2) :
    Calls Try.prog 27 #[ivV a] w fun e w' => e = .returned (ivE (piE a)) ∧ Below w.heap.size w w' := by
  have hex := fun W n hn => exam1_at a W n hn ha
  have hno : ¬ examI [a] = 0 → ivE (piE a) = .tuple #[.agg #[.int .i64 0, .int .i64 0], .int .i64 (examI [a])] := fun h => by unfold piE; rw [if_neg h]; rfl
  have hyes : examI [a] = 0 → ∃ x y ee, ivE (piE a) = .tuple #[.agg #[.int .i64 x, .int .i64 y], .int .i64 ee] ∧ ∀ W, Calls Try.prog 47 #[ivV a, .agg #[.int .i64 3141592653589793238, .int .i64 3141592653589793239], .int .i64 1000000000000000000] W fun e' w' => e' = .returned (.tuple #[.agg #[.int .i64 x, .int .i64 y], .int .i64 ee]) ∧ Below W.heap.size W w' := fun h => by
    refine ⟨(piE a).1.1, (piE a).1.2, (piE a).2, rfl, fun W => ?_⟩
    unfold piE
    rw [if_pos h]
    exact productsOver_any a piL 1000000000000000000 W ha (by unfold I64 piL; decide) (by omega)
  clear ha
  have HEX := Lib.hid hex
  clear hex
  obtain ⟨er, her⟩ : ∃ er, er = examI [a] := ⟨_, rfl⟩
  rw [← her] at HEX hno hyes
  clear her
  generalize ivE (piE a) = R at *
  unfold ivV at *
  by_cases h0 : er = 0
  · subst h0
    obtain ⟨x, y, ee, rfl, hs⟩ := hyes rfl
    have HS := Lib.hid hs
    clear hno hyes hs
    go_enter Try.func27, Try.ntmps27
    go_wp2_with fail
    refine (HEX.out _ _ (by simp)).mono ?_
    rintro e w1 ⟨he, hb⟩
    subst he
    have F1 := Fm.of2 hb
    have c10 := F1.k0.c0
    have c11 := F1.k0.c1
    clear hb
    have F1' := Lib.hid F1
    clear F1
    go_wp2_with fail
    refine (HS.out _).mono ?_
    rintro e w2 ⟨he, hb⟩
    subst he
    have F2 := F1'.out.later hb
    obtain ⟨p, q, hr⟩ := F2.res
    have c30 := hr.c0
    have c31 := hr.c1
    have f30 := hr.f0
    have f31 := hr.f1
    have FB := Lib.hid F2
    clear hb F2 hr
    go_wp2_with fail
    refine bodyPost_ret (v := .tuple #[.agg #[.int .i64 x, .int .i64 y], .int .i64 ee]) (by simp [results, Try.results27, c30, c31, go_sem]) rfl ⟨rfl, (FB.out.set _ _).bl⟩
  · have q1 : (er == 0) = false := by simp [h0]
    have q2 : (er != 0) = true := by simp [h0]
    obtain rfl := hno h0
    clear hno hyes h0
    go_enter Try.func27, Try.ntmps27
    go_wp2_with fail
    refine (HEX.out _ _ (by simp)).mono ?_
    rintro e w1 ⟨he, hb⟩
    subst he
    have F1 := Fm.of2 hb
    obtain ⟨p, q, hr⟩ := F1.res
    have c30 := hr.c0
    have c31 := hr.c1
    have f30 := hr.f0
    have f31 := hr.f1
    have FB := Lib.hid F1
    clear hb F1 hr
    go_wp2_with fail
    refine bodyPost_ret (v := .tuple #[.agg #[.int .i64 0, .int .i64 0], .int .i64 er]) (by simp [results, Try.results27, c30, c31, go_sem]) rfl ⟨rfl, (FB.out.set _ _).bl⟩
end Go.Proofs.Ytmmgbofhbnflkaa
