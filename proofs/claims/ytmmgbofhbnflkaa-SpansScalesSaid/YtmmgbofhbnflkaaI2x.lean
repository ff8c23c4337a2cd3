import Derived.Test.YtmmgbofhbnflkaaI1
namespace Go.Proofs.Ytmmgbofhbnflkaa
open Go.RowKit

def addW (a b : Int × Int) : (Int × Int) × Int := if examI [a, b] = 0 then spanW (a.1 + b.1) (a.2 + b.2) else ((0, 0), examI [a, b])
def subW (a b : Int × Int) : (Int × Int) × Int := if examI [a, b] = 0 then spanW (a.1 - b.2) (a.2 - b.1) else ((0, 0), examI [a, b])
def hullW (a b : Int × Int) : (Int × Int) × Int := if examI [a, b] = 0 then ((min a.1 b.1, max a.2 b.2), 0) else ((0, 0), examI [a, b])
def meetW (a b : Int × Int) : (Int × Int) × Int := if examI [a, b] = 0 then (if a.2 < b.1 ∨ b.2 < a.1 then ((0, 0), 4) else ((max a.1 b.1, min a.2 b.2), 0)) else ((0, 0), examI [a, b])
def orderW (a b : Int × Int) : Int × Int := if examI [a, b] = 0 then (if a.2 < b.1 then (-1, 0) else if b.2 < a.1 then (1, 0) else (0, 0)) else (0, examI [a, b])

set_option maxRecDepth 100000 in
theorem add_any (a b : Int × Int) (w : World) (ha : I64 a.1 ∧ I64 a.2) (hb : I64 b.1 ∧ I64 b.2) :
    Calls Try.prog 10 #[ivV a, ivV b] w fun e w' => e = .returned (ivE (addW a b)) ∧ Below w.heap.size w w' := by
  have hex := fun W n hn => exam2_at a b W n hn ha hb
  have hno : ¬ examI [a, b] = 0 → ivE (addW a b) = .tuple #[.agg #[.int .i64 0, .int .i64 0], .int .i64 (examI [a, b])] := fun h => by unfold addW; rw [if_neg h]; rfl
  have hyes : examI [a, b] = 0 → ∃ x y e, ivE (addW a b) = .tuple #[.agg #[.int .i64 x, .int .i64 y], .int .i64 e] ∧ ∀ W, Calls Try.prog 43 #[ivV a, ivV b] W fun e' w' => e' = .returned (.tuple #[.agg #[.int .i64 x, .int .i64 y], .int .i64 e]) ∧ Below W.heap.size W w' := fun h => by
    refine ⟨(addW a b).1.1, (addW a b).1.2, (addW a b).2, rfl, fun W => ?_⟩
    have h1 := examI_ok h a (by simp)
    have h2 := examI_ok h b (by simp)
    unfold addW
    rw [if_pos h]
    exact sum_any a b W h1.1 h1.2.1 h2.1 h2.2.1
  clear ha hb
  have HEX := Lib.hid hex
  clear hex
  obtain ⟨er, her⟩ : ∃ er, er = examI [a, b] := ⟨_, rfl⟩
  rw [← her] at HEX hno hyes
  clear her
  generalize ivE (addW a b) = R at *
  unfold ivV at *
  by_cases h0 : er = 0
  · subst h0
    obtain ⟨x, y, ee, rfl, hs⟩ := hyes rfl
    have HS := Lib.hid hs
    clear hno hyes hs
    go_enter Try.func10, Try.ntmps10
    go_wp2_with fail
    refine (HEX.out _ _ (by simp)).mono ?_
    rintro e w1 ⟨he, hb⟩
    subst he
    obtain ⟨k1, k2, k3, hb1⟩ := box3 hb
    have c10 := k1.c0
    have c11 := k1.c1
    have c20 := k2.c0
    have c21 := k2.c1
    have HB1 := Lib.hid hb1
    have K3 := Lib.hid k3
    clear hb hb1 k1 k2 k3
    go_wp2_with fail
    refine (HS.out _).mono ?_
    rintro e w2 ⟨he, hb2⟩
    subst he
    have hbx := Below.after HB1.out hb2
    have HB2 := Lib.hid hbx
    have k3 := K3.out.later hb2
    clear hb2 hbx
    have c30 := k3.c0
    have c31 := k3.c1
    have f30 := k3.f0
    have f31 := k3.f1
    clear k3
    go_wp2_with fail
    refine bodyPost_ret (v := .tuple #[.agg #[.int .i64 x, .int .i64 y], .int .i64 ee]) (by simp [results, Try.results10, c30, c31, go_sem]) rfl ⟨rfl, ?_⟩
    exact Below.set2 HB2.out _ (Nat.le_add_right _ 2) _ _
  · have q1 : (er == 0) = false := by simp [h0]
    have q2 : (er != 0) = true := by simp [h0]
    obtain rfl := hno h0
    clear hno hyes h0
    go_enter Try.func10, Try.ntmps10
    go_wp2_with fail
    refine (HEX.out _ _ (by simp)).mono ?_
    rintro e w1 ⟨he, hb⟩
    subst he
    obtain ⟨k1, k2, k3, hb1⟩ := box3 hb
    have c30 := k3.c0
    have c31 := k3.c1
    have f30 := k3.f0
    have f31 := k3.f1
    have HB1 := Lib.hid hb1
    clear hb hb1 k1 k2
    go_wp2_with fail
    refine bodyPost_ret (v := .tuple #[.agg #[.int .i64 0, .int .i64 0], .int .i64 er]) (by simp [results, Try.results10, c30, c31, go_sem]) rfl ⟨rfl, ?_⟩
    exact Below.set2 HB1.out _ (Nat.le_add_right _ 2) _ _

set_option maxRecDepth 100000 in
theorem sub_any (a b : Int × Int) (w : World) (ha : I64 a.1 ∧ I64 a.2) (hb : I64 b.1 ∧ I64 b.2) :
    Calls Try.prog 12 #[ivV a, ivV b] w fun e w' => e = .returned (ivE (subW a b)) ∧ Below w.heap.size w w' := by
  have hex := fun W n hn => exam2_at a b W n hn ha hb
  have hno : ¬ examI [a, b] = 0 → ivE (subW a b) = .tuple #[.agg #[.int .i64 0, .int .i64 0], .int .i64 (examI [a, b])] := fun h => by unfold subW; rw [if_neg h]; rfl
  have hyes : examI [a, b] = 0 → ∃ x y e, ivE (subW a b) = .tuple #[.agg #[.int .i64 x, .int .i64 y], .int .i64 e] ∧ (∀ W, Calls Try.prog 45 #[ivV b] W fun e' w' => e' = .returned (ivV (negI b)) ∧ Below W.heap.size W w') ∧
      ∀ W, Calls Try.prog 43 #[ivV a, ivV (negI b)] W fun e' w' => e' = .returned (.tuple #[.agg #[.int .i64 x, .int .i64 y], .int .i64 e]) ∧ Below W.heap.size W w' := fun h => by
    refine ⟨(subW a b).1.1, (subW a b).1.2, (subW a b).2, rfl, fun W => ?_, fun W => ?_⟩
    · have h2 := examI_ok h b (by simp)
      exact minus_any b W h2.1 h2.2.1
    · have h1 := examI_ok h a (by simp)
      have h2 := examI_ok h b (by simp)
      unfold subW
      rw [if_pos h]
      have := sum_any a (negI b) W h1.1 h1.2.1 (by have := okB_iff.1 h2.2.1; exact okB_of (by unfold negI; simp only; omega)) (by have := okB_iff.1 h2.1; exact okB_of (by unfold negI; simp only; omega))
      rw [show a.1 + (negI b).1 = a.1 - b.2 from (Int.sub_eq_add_neg).symm, show a.2 + (negI b).2 = a.2 - b.1 from (Int.sub_eq_add_neg).symm] at this
      exact this
  clear ha hb
  have HEX := Lib.hid hex
  clear hex
  obtain ⟨er, her⟩ : ∃ er, er = examI [a, b] := ⟨_, rfl⟩
  rw [← her] at HEX hno hyes
  clear her
  generalize ivE (subW a b) = R at *
  unfold ivV at *
  by_cases h0 : er = 0
  · subst h0
    obtain ⟨x, y, ee, rfl, hm, hs⟩ := hyes rfl
    generalize (negI b).1 = n1 at *
    generalize (negI b).2 = n2 at *
    have HM := Lib.hid hm
    have HS := Lib.hid hs
    clear hno hyes hs hm
    go_enter Try.func12, Try.ntmps12
    go_wp2_with fail
    refine (HEX.out _ _ (by simp)).mono ?_
    rintro e w1 ⟨he, hb⟩
    subst he
    have F := Fm.of3 hb
    have c10 := F.k0.c0
    have c11 := F.k0.c1
    have c20 := F.k1.c0
    have c21 := F.k1.c1
    clear hb
    go_wp2_with fail
    go_region_held3 (fun w' => Fm w [(w.heap.size, .int .i64 a.1, .int .i64 a.2), (w.heap.size + 1, .int .i64 b.1, .int .i64 b.2)] (w.heap.size + 1 + 1) w' ∧ w'.cell? ⟨w.heap.size, 0, none⟩ = some (.int .i64 a.1) ∧ w'.cell? ⟨w.heap.size, 1, none⟩ = some (.int .i64 a.2) ∧ w'.cell? ⟨w.heap.size + 1, 0, none⟩ = some (.int .i64 b.1) ∧ w'.cell? ⟨w.heap.size + 1, 1, none⟩ = some (.int .i64 b.2))
      (refine ⟨?_, ?_, ?_, ?_, ?_⟩ <;> first | assumption | (exact Fm.drew ‹_›) | (exact Fm.set ‹_› _ _) | (exact (Fm.set ‹_› _ _).k0.c0) | (exact (Fm.set ‹_› _ _).k0.c1) | (exact (Fm.set ‹_› _ _).k1.c0) | (exact (Fm.set ‹_› _ _).k1.c1) | go_keep)
      (first
        | (go_at_call 45; refine Calls.mono (HM.out _) ?_; clear HM; rintro e w2 ⟨he, hb2⟩; subst he; have hS2 : Fm w [(w.heap.size, .int .i64 a.1, .int .i64 a.2), (w.heap.size + 1, .int .i64 b.1, .int .i64 b.2)] (w.heap.size + 1 + 1) w2 := Fm.later (by first | assumption | exact Fm.drew ‹_›) hb2; have c10' := hS2.k0.c0; have c11' := hS2.k0.c1; have c20' := hS2.k1.c0; have c21' := hS2.k1.c1)
        | (go_at_call 43; refine Calls.mono (HS.out _) ?_; clear HS; rintro e w3 ⟨he, hb3⟩; subst he; have hS3 : Fm w [(w.heap.size, .int .i64 a.1, .int .i64 a.2), (w.heap.size + 1, .int .i64 b.1, .int .i64 b.2)] (w.heap.size + 1 + 1) w3 := Fm.later (by first | assumption | exact Fm.drew ‹_›) hb3; have c10'' := hS3.k0.c0; have c11'' := hS3.k0.c1; have c20'' := hS3.k1.c0; have c21'' := hS3.k1.c1; obtain ⟨p, q, hr⟩ := hS3.res; have c30 := hr.c0; have c31 := hr.c1; have f30 := hr.f0; have f31 := hr.f1))
    all_goals
      have HB := Lib.hid hS3.bl
      clear hS3 hS2 F hr
      go_wp2_with fail
      refine bodyPost_ret (v := .tuple #[.agg #[.int .i64 x, .int .i64 y], .int .i64 ee]) (by simp [results, Try.results12, c30, c31, go_sem]) rfl ⟨rfl, ?_⟩
      exact Below.set2 HB.out _ (Nat.le_add_right _ 2) _ _
  · have q1 : (er == 0) = false := by simp [h0]
    have q2 : (er != 0) = true := by simp [h0]
    obtain rfl := hno h0
    clear hno hyes h0
    go_enter Try.func12, Try.ntmps12
    go_wp2_with fail
    refine (HEX.out _ _ (by simp)).mono ?_
    rintro e w1 ⟨he, hb⟩
    subst he
    obtain ⟨k1, k2, k3, hb1⟩ := box3 hb
    have c30 := k3.c0
    have c31 := k3.c1
    have f30 := k3.f0
    have f31 := k3.f1
    have HB1 := Lib.hid hb1
    clear hb hb1 k1 k2
    go_wp2_with fail
    refine bodyPost_ret (v := .tuple #[.agg #[.int .i64 0, .int .i64 0], .int .i64 er]) (by simp [results, Try.results12, c30, c31, go_sem]) rfl ⟨rfl, ?_⟩
    exact Below.set2 HB1.out _ (Nat.le_add_right _ 2) _ _

end Go.Proofs.Ytmmgbofhbnflkaa
