import Derived.Test.YtmmgbofhbnflkaaI13a
namespace Go.Proofs.Ytmmgbofhbnflkaa
open Go.RowKit

set_option maxRecDepth 100000 in
set_option maxHeartbeats 4000000 in
theorem awake_any (w : World) : Calls Try.prog 20 #[] w fun e w' => e = .returned (.bool true) ∧ Below w.heap.size w w' := by
  have IV := Lib.hid iv_any
  have hb0 : Below w.heap.size w w := Below.refl _ _
  have HB := Lib.hid hb0
  clear hb0
  go_enter Try.func20, Try.ntmps20
  go_wp2_with fail
  refine (IV.out (-2) 3 _).mono ?_
  rintro e w' ⟨he, hb⟩
  subst he
  have HB' := Lib.hid (Below.after HB.out hb)
  clear HB
  have HB := HB'
  clear HB'
  clear hb
  go_wp2_with fail
  refine (IV.out (-7) 1 _).mono ?_
  rintro e w' ⟨he, hb⟩
  subst he
  have HB' := Lib.hid (Below.after HB.out hb)
  clear HB
  have HB := HB'
  clear HB'
  clear hb
  go_wp2_with fail
  refine (s_mul _).mono ?_
  rintro e w' ⟨he, hb⟩
  subst he
  have HB' := Lib.hid (Below.after (Below.after HB.out hb) (below_alloc w' (.cells #[.int .i64 (-21), .int .i64 14] 23)))
  clear HB
  have HB := HB'
  clear HB'
  have K0 := Lib.hid (Cell2.new w' (.int .i64 (-21)) (.int .i64 14) 23)
  clear hb
  go_wp2_with fail
  generalize w'.heap.size = g0 at *
  generalize w'.alloc (.cells #[.int .i64 (-21), .int .i64 14] 23) = v0 at *
  refine (IV.out 7 8 _).mono ?_
  rintro e w' ⟨he, hb⟩
  subst he
  have HB' := Lib.hid (Below.after HB.out hb)
  clear HB
  have HB := HB'
  clear HB'
  have K0' := K0.out.later hb
  clear K0
  have K0 := Lib.hid K0'
  clear K0'
  clear hb
  go_wp2_with fail
  refine (IV.out 2 3 _).mono ?_
  rintro e w' ⟨he, hb⟩
  subst he
  have HB' := Lib.hid (Below.after HB.out hb)
  clear HB
  have HB := HB'
  clear HB'
  have K0' := K0.out.later hb
  clear K0
  have K0 := Lib.hid K0'
  clear K0'
  clear hb
  go_wp2_with fail
  refine (s_div _).mono ?_
  rintro e w' ⟨he, hb⟩
  subst he
  have HB' := Lib.hid (Below.after (Below.after HB.out hb) (below_alloc w' (.cells #[.int .i64 2, .int .i64 4] 23)))
  clear HB
  have HB := HB'
  clear HB'
  have K1 := Lib.hid (Cell2.new w' (.int .i64 2) (.int .i64 4) 23)
  have K0' := (K0.out.later hb).alloc (.cells #[.int .i64 2, .int .i64 4] 23)
  clear K0
  have K0 := Lib.hid K0'
  clear K0'
  clear hb
  go_wp2_with fail
  generalize w'.heap.size = g1 at *
  generalize w'.alloc (.cells #[.int .i64 2, .int .i64 4] 23) = v1 at *
  refine (IV.out 10 11 _).mono ?_
  rintro e w' ⟨he, hb⟩
  subst he
  have HB' := Lib.hid (Below.after HB.out hb)
  clear HB
  have HB := HB'
  clear HB'
  have K0' := K0.out.later hb
  clear K0
  have K0 := Lib.hid K0'
  clear K0'
  have K1' := K1.out.later hb
  clear K1
  have K1 := Lib.hid K1'
  clear K1'
  clear hb
  go_wp2_with fail
  refine (s_scale _).mono ?_
  rintro e w' ⟨he, hb⟩
  subst he
  have HB' := Lib.hid (Below.after (Below.after HB.out hb) (below_alloc w' (.cells #[.int .i64 (-4), .int .i64 (-3)] 23)))
  clear HB
  have HB := HB'
  clear HB'
  have K2 := Lib.hid (Cell2.new w' (.int .i64 (-4)) (.int .i64 (-3)) 23)
  have K0' := (K0.out.later hb).alloc (.cells #[.int .i64 (-4), .int .i64 (-3)] 23)
  clear K0
  have K0 := Lib.hid K0'
  clear K0'
  have K1' := (K1.out.later hb).alloc (.cells #[.int .i64 (-4), .int .i64 (-3)] 23)
  clear K1
  have K1 := Lib.hid K1'
  clear K1'
  clear hb
  go_wp2_with fail
  generalize w'.heap.size = g2 at *
  generalize w'.alloc (.cells #[.int .i64 (-4), .int .i64 (-3)] 23) = v2 at *
  refine (IV.out (-3) 2 _).mono ?_
  rintro e w' ⟨he, hb⟩
  subst he
  have HB' := Lib.hid (Below.after HB.out hb)
  clear HB
  have HB := HB'
  clear HB'
  have K0' := K0.out.later hb
  clear K0
  have K0 := Lib.hid K0'
  clear K0'
  have K1' := K1.out.later hb
  clear K1
  have K1 := Lib.hid K1'
  clear K1'
  have K2' := K2.out.later hb
  clear K2
  have K2 := Lib.hid K2'
  clear K2'
  clear hb
  go_wp2_with fail
  refine (s_pow _).mono ?_
  rintro e w' ⟨he, hb⟩
  subst he
  have HB' := Lib.hid (Below.after (Below.after HB.out hb) (below_alloc w' (.cells #[.int .i64 0, .int .i64 9] 23)))
  clear HB
  have HB := HB'
  clear HB'
  have K3 := Lib.hid (Cell2.new w' (.int .i64 0) (.int .i64 9) 23)
  have K0' := (K0.out.later hb).alloc (.cells #[.int .i64 0, .int .i64 9] 23)
  clear K0
  have K0 := Lib.hid K0'
  clear K0'
  have K1' := (K1.out.later hb).alloc (.cells #[.int .i64 0, .int .i64 9] 23)
  clear K1
  have K1 := Lib.hid K1'
  clear K1'
  have K2' := (K2.out.later hb).alloc (.cells #[.int .i64 0, .int .i64 9] 23)
  clear K2
  have K2 := Lib.hid K2'
  clear K2'
  clear hb
  go_wp2_with fail
  generalize w'.heap.size = g3 at *
  generalize w'.alloc (.cells #[.int .i64 0, .int .i64 9] 23) = v3 at *
  refine (IV.out 10 10 _).mono ?_
  rintro e w' ⟨he, hb⟩
  subst he
  have HB' := Lib.hid (Below.after HB.out hb)
  clear HB
  have HB := HB'
  clear HB'
  have K0' := K0.out.later hb
  clear K0
  have K0 := Lib.hid K0'
  clear K0'
  have K1' := K1.out.later hb
  clear K1
  have K1 := Lib.hid K1'
  clear K1'
  have K2' := K2.out.later hb
  clear K2
  have K2 := Lib.hid K2'
  clear K2'
  have K3' := K3.out.later hb
  clear K3
  have K3 := Lib.hid K3'
  clear K3'
  clear hb
  go_wp2_with fail
  refine (s_root _).mono ?_
  rintro e w' ⟨he, hb⟩
  subst he
  have HB' := Lib.hid (Below.after (Below.after HB.out hb) (below_alloc w' (.cells #[.int .i64 3, .int .i64 4] 23)))
  clear HB
  have HB := HB'
  clear HB'
  have K4 := Lib.hid (Cell2.new w' (.int .i64 3) (.int .i64 4) 23)
  have K0' := (K0.out.later hb).alloc (.cells #[.int .i64 3, .int .i64 4] 23)
  clear K0
  have K0 := Lib.hid K0'
  clear K0'
  have K1' := (K1.out.later hb).alloc (.cells #[.int .i64 3, .int .i64 4] 23)
  clear K1
  have K1 := Lib.hid K1'
  clear K1'
  have K2' := (K2.out.later hb).alloc (.cells #[.int .i64 3, .int .i64 4] 23)
  clear K2
  have K2 := Lib.hid K2'
  clear K2'
  have K3' := (K3.out.later hb).alloc (.cells #[.int .i64 3, .int .i64 4] 23)
  clear K3
  have K3 := Lib.hid K3'
  clear K3'
  clear hb
  go_wp2_with fail
  generalize w'.heap.size = g4 at *
  generalize w'.alloc (.cells #[.int .i64 3, .int .i64 4] 23) = v4 at *
  refine (IV.out 1000000 1000000 _).mono ?_
  rintro e w' ⟨he, hb⟩
  subst he
  have HB' := Lib.hid (Below.after HB.out hb)
  clear HB
  have HB := HB'
  clear HB'
  have K0' := K0.out.later hb
  clear K0
  have K0 := Lib.hid K0'
  clear K0'
  have K1' := K1.out.later hb
  clear K1
  have K1 := Lib.hid K1'
  clear K1'
  have K2' := K2.out.later hb
  clear K2
  have K2 := Lib.hid K2'
  clear K2'
  have K3' := K3.out.later hb
  clear K3
  have K3 := Lib.hid K3'
  clear K3'
  have K4' := K4.out.later hb
  clear K4
  have K4 := Lib.hid K4'
  clear K4'
  clear hb
  go_wp2_with fail
  refine (s_pi _).mono ?_
  rintro e w' ⟨he, hb⟩
  subst he
  have HB' := Lib.hid (Below.after (Below.after HB.out hb) (below_alloc w' (.cells #[.int .i64 3141592, .int .i64 3141593] 23)))
  clear HB
  have HB := HB'
  clear HB'
  have K5 := Lib.hid (Cell2.new w' (.int .i64 3141592) (.int .i64 3141593) 23)
  have K0' := (K0.out.later hb).alloc (.cells #[.int .i64 3141592, .int .i64 3141593] 23)
  clear K0
  have K0 := Lib.hid K0'
  clear K0'
  have K1' := (K1.out.later hb).alloc (.cells #[.int .i64 3141592, .int .i64 3141593] 23)
  clear K1
  have K1 := Lib.hid K1'
  clear K1'
  have K2' := (K2.out.later hb).alloc (.cells #[.int .i64 3141592, .int .i64 3141593] 23)
  clear K2
  have K2 := Lib.hid K2'
  clear K2'
  have K3' := (K3.out.later hb).alloc (.cells #[.int .i64 3141592, .int .i64 3141593] 23)
  clear K3
  have K3 := Lib.hid K3'
  clear K3'
  have K4' := (K4.out.later hb).alloc (.cells #[.int .i64 3141592, .int .i64 3141593] 23)
  clear K4
  have K4 := Lib.hid K4'
  clear K4'
  clear hb
  go_wp2_with fail
  generalize w'.heap.size = g5 at *
  generalize w'.alloc (.cells #[.int .i64 3141592, .int .i64 3141593] 23) = v5 at *
  refine (IV.out 1000 1000 _).mono ?_
  rintro e w' ⟨he, hb⟩
  subst he
  have HB' := Lib.hid (Below.after HB.out hb)
  clear HB
  have HB := HB'
  clear HB'
  have K0' := K0.out.later hb
  clear K0
  have K0 := Lib.hid K0'
  clear K0'
  have K1' := K1.out.later hb
  clear K1
  have K1 := Lib.hid K1'
  clear K1'
  have K2' := K2.out.later hb
  clear K2
  have K2 := Lib.hid K2'
  clear K2'
  have K3' := K3.out.later hb
  clear K3
  have K3 := Lib.hid K3'
  clear K3'
  have K4' := K4.out.later hb
  clear K4
  have K4 := Lib.hid K4'
  clear K4'
  have K5' := K5.out.later hb
  clear K5
  have K5 := Lib.hid K5'
  clear K5'
  clear hb
  go_wp2_with fail
  refine (s_disc _).mono ?_
  rintro e w' ⟨he, hb⟩
  subst he
  have HB' := Lib.hid (Below.after (Below.after HB.out hb) (below_alloc w' (.cells #[.int .i64 785398, .int .i64 785399] 23)))
  clear HB
  have HB := HB'
  clear HB'
  have K6 := Lib.hid (Cell2.new w' (.int .i64 785398) (.int .i64 785399) 23)
  have K0' := (K0.out.later hb).alloc (.cells #[.int .i64 785398, .int .i64 785399] 23)
  clear K0
  have K0 := Lib.hid K0'
  clear K0'
  have K1' := (K1.out.later hb).alloc (.cells #[.int .i64 785398, .int .i64 785399] 23)
  clear K1
  have K1 := Lib.hid K1'
  clear K1'
  have K2' := (K2.out.later hb).alloc (.cells #[.int .i64 785398, .int .i64 785399] 23)
  clear K2
  have K2 := Lib.hid K2'
  clear K2'
  have K3' := (K3.out.later hb).alloc (.cells #[.int .i64 785398, .int .i64 785399] 23)
  clear K3
  have K3 := Lib.hid K3'
  clear K3'
  have K4' := (K4.out.later hb).alloc (.cells #[.int .i64 785398, .int .i64 785399] 23)
  clear K4
  have K4 := Lib.hid K4'
  clear K4'
  have K5' := (K5.out.later hb).alloc (.cells #[.int .i64 785398, .int .i64 785399] 23)
  clear K5
  have K5 := Lib.hid K5'
  clear K5'
  clear hb
  go_wp2_with fail
  generalize w'.heap.size = g6 at *
  generalize w'.alloc (.cells #[.int .i64 785398, .int .i64 785399] 23) = v6 at *
  have SO := Lib.hid (show ∀ u, Below w.heap.size w u → Cell2 u g0 (.int .i64 (-21)) (.int .i64 14) → Cell2 u g1 (.int .i64 2) (.int .i64 4) → Cell2 u g2 (.int .i64 (-4)) (.int .i64 (-3)) → Cell2 u g3 (.int .i64 0) (.int .i64 9) → Cell2 u g4 (.int .i64 3) (.int .i64 4) → Cell2 u g5 (.int .i64 3141592) (.int .i64 3141593) → Cell2 u g6 (.int .i64 785398) (.int .i64 785399) → (fun u => Below w.heap.size w u ∧ Cell2 u g0 (.int .i64 (-21)) (.int .i64 14) ∧ u.cell? ⟨g0, 0, none⟩ = some (.int .i64 (-21)) ∧ u.cell? ⟨g0, 1, none⟩ = some (.int .i64 14) ∧ Cell2 u g1 (.int .i64 2) (.int .i64 4) ∧ u.cell? ⟨g1, 0, none⟩ = some (.int .i64 2) ∧ u.cell? ⟨g1, 1, none⟩ = some (.int .i64 4) ∧ Cell2 u g2 (.int .i64 (-4)) (.int .i64 (-3)) ∧ u.cell? ⟨g2, 0, none⟩ = some (.int .i64 (-4)) ∧ u.cell? ⟨g2, 1, none⟩ = some (.int .i64 (-3)) ∧ Cell2 u g3 (.int .i64 0) (.int .i64 9) ∧ u.cell? ⟨g3, 0, none⟩ = some (.int .i64 0) ∧ u.cell? ⟨g3, 1, none⟩ = some (.int .i64 9) ∧ Cell2 u g4 (.int .i64 3) (.int .i64 4) ∧ u.cell? ⟨g4, 0, none⟩ = some (.int .i64 3) ∧ u.cell? ⟨g4, 1, none⟩ = some (.int .i64 4) ∧ Cell2 u g5 (.int .i64 3141592) (.int .i64 3141593) ∧ u.cell? ⟨g5, 0, none⟩ = some (.int .i64 3141592) ∧ u.cell? ⟨g5, 1, none⟩ = some (.int .i64 3141593) ∧ Cell2 u g6 (.int .i64 785398) (.int .i64 785399) ∧ u.cell? ⟨g6, 0, none⟩ = some (.int .i64 785398) ∧ u.cell? ⟨g6, 1, none⟩ = some (.int .i64 785399)) u from fun u HH HK0 HK1 HK2 HK3 HK4 HK5 HK6 => ⟨HH, HK0, HK0.c0, HK0.c1, HK1, HK1.c0, HK1.c1, HK2, HK2.c0, HK2.c1, HK3, HK3.c0, HK3.c1, HK4, HK4.c0, HK4.c1, HK5, HK5.c0, HK5.c1, HK6, HK6.c0, HK6.c1⟩)
  simp only at SO
  refine E_start (S := fun u => Below w.heap.size w u ∧ Cell2 u g0 (.int .i64 (-21)) (.int .i64 14) ∧ u.cell? ⟨g0, 0, none⟩ = some (.int .i64 (-21)) ∧ u.cell? ⟨g0, 1, none⟩ = some (.int .i64 14) ∧ Cell2 u g1 (.int .i64 2) (.int .i64 4) ∧ u.cell? ⟨g1, 0, none⟩ = some (.int .i64 2) ∧ u.cell? ⟨g1, 1, none⟩ = some (.int .i64 4) ∧ Cell2 u g2 (.int .i64 (-4)) (.int .i64 (-3)) ∧ u.cell? ⟨g2, 0, none⟩ = some (.int .i64 (-4)) ∧ u.cell? ⟨g2, 1, none⟩ = some (.int .i64 (-3)) ∧ Cell2 u g3 (.int .i64 0) (.int .i64 9) ∧ u.cell? ⟨g3, 0, none⟩ = some (.int .i64 0) ∧ u.cell? ⟨g3, 1, none⟩ = some (.int .i64 9) ∧ Cell2 u g4 (.int .i64 3) (.int .i64 4) ∧ u.cell? ⟨g4, 0, none⟩ = some (.int .i64 3) ∧ u.cell? ⟨g4, 1, none⟩ = some (.int .i64 4) ∧ Cell2 u g5 (.int .i64 3141592) (.int .i64 3141593) ∧ u.cell? ⟨g5, 0, none⟩ = some (.int .i64 3141592) ∧ u.cell? ⟨g5, 1, none⟩ = some (.int .i64 3141593) ∧ Cell2 u g6 (.int .i64 785398) (.int .i64 785399) ∧ u.cell? ⟨g6, 0, none⟩ = some (.int .i64 785398) ∧ u.cell? ⟨g6, 1, none⟩ = some (.int .i64 785399)) (by kernel_rfl) (SO.out _ (Below.after HB.out (below_drewN v6 1)) (K0.out.later (below_drewN v6 1)) (K1.out.later (below_drewN v6 1)) (K2.out.later (below_drewN v6 1)) (K3.out.later (below_drewN v6 1)) (K4.out.later (below_drewN v6 1)) (K5.out.later (below_drewN v6 1)) (K6.out.later (below_drewN v6 1))) ?_
  clear HB K0 K1 K2 K3 K4 K5 K6
  have HS := Lib.hid (show ∀ w' u, (fun u => Below w.heap.size w u ∧ Cell2 u g0 (.int .i64 (-21)) (.int .i64 14) ∧ u.cell? ⟨g0, 0, none⟩ = some (.int .i64 (-21)) ∧ u.cell? ⟨g0, 1, none⟩ = some (.int .i64 14) ∧ Cell2 u g1 (.int .i64 2) (.int .i64 4) ∧ u.cell? ⟨g1, 0, none⟩ = some (.int .i64 2) ∧ u.cell? ⟨g1, 1, none⟩ = some (.int .i64 4) ∧ Cell2 u g2 (.int .i64 (-4)) (.int .i64 (-3)) ∧ u.cell? ⟨g2, 0, none⟩ = some (.int .i64 (-4)) ∧ u.cell? ⟨g2, 1, none⟩ = some (.int .i64 (-3)) ∧ Cell2 u g3 (.int .i64 0) (.int .i64 9) ∧ u.cell? ⟨g3, 0, none⟩ = some (.int .i64 0) ∧ u.cell? ⟨g3, 1, none⟩ = some (.int .i64 9) ∧ Cell2 u g4 (.int .i64 3) (.int .i64 4) ∧ u.cell? ⟨g4, 0, none⟩ = some (.int .i64 3) ∧ u.cell? ⟨g4, 1, none⟩ = some (.int .i64 4) ∧ Cell2 u g5 (.int .i64 3141592) (.int .i64 3141593) ∧ u.cell? ⟨g5, 0, none⟩ = some (.int .i64 3141592) ∧ u.cell? ⟨g5, 1, none⟩ = some (.int .i64 3141593) ∧ Cell2 u g6 (.int .i64 785398) (.int .i64 785399) ∧ u.cell? ⟨g6, 0, none⟩ = some (.int .i64 785398) ∧ u.cell? ⟨g6, 1, none⟩ = some (.int .i64 785399)) w' → Below w'.heap.size w' u → (fun u => Below w.heap.size w u ∧ Cell2 u g0 (.int .i64 (-21)) (.int .i64 14) ∧ u.cell? ⟨g0, 0, none⟩ = some (.int .i64 (-21)) ∧ u.cell? ⟨g0, 1, none⟩ = some (.int .i64 14) ∧ Cell2 u g1 (.int .i64 2) (.int .i64 4) ∧ u.cell? ⟨g1, 0, none⟩ = some (.int .i64 2) ∧ u.cell? ⟨g1, 1, none⟩ = some (.int .i64 4) ∧ Cell2 u g2 (.int .i64 (-4)) (.int .i64 (-3)) ∧ u.cell? ⟨g2, 0, none⟩ = some (.int .i64 (-4)) ∧ u.cell? ⟨g2, 1, none⟩ = some (.int .i64 (-3)) ∧ Cell2 u g3 (.int .i64 0) (.int .i64 9) ∧ u.cell? ⟨g3, 0, none⟩ = some (.int .i64 0) ∧ u.cell? ⟨g3, 1, none⟩ = some (.int .i64 9) ∧ Cell2 u g4 (.int .i64 3) (.int .i64 4) ∧ u.cell? ⟨g4, 0, none⟩ = some (.int .i64 3) ∧ u.cell? ⟨g4, 1, none⟩ = some (.int .i64 4) ∧ Cell2 u g5 (.int .i64 3141592) (.int .i64 3141593) ∧ u.cell? ⟨g5, 0, none⟩ = some (.int .i64 3141592) ∧ u.cell? ⟨g5, 1, none⟩ = some (.int .i64 3141593) ∧ Cell2 u g6 (.int .i64 785398) (.int .i64 785399) ∧ u.cell? ⟨g6, 0, none⟩ = some (.int .i64 785398) ∧ u.cell? ⟨g6, 1, none⟩ = some (.int .i64 785399)) u from fun w' u hw h2 => SO.out u (Below.after hw.1 h2) (hw.2.1.later h2) (hw.2.2.2.2.1.later h2) (hw.2.2.2.2.2.2.2.1.later h2) (hw.2.2.2.2.2.2.2.2.2.2.1.later h2) (hw.2.2.2.2.2.2.2.2.2.2.2.2.2.1.later h2) (hw.2.2.2.2.2.2.2.2.2.2.2.2.2.2.2.2.1.later h2) (hw.2.2.2.2.2.2.2.2.2.2.2.2.2.2.2.2.2.2.2.1.later h2))
  simp only at HS
  have LK0 := Lib.hid (show ∀ u, (fun u => Below w.heap.size w u ∧ Cell2 u g0 (.int .i64 (-21)) (.int .i64 14) ∧ u.cell? ⟨g0, 0, none⟩ = some (.int .i64 (-21)) ∧ u.cell? ⟨g0, 1, none⟩ = some (.int .i64 14) ∧ Cell2 u g1 (.int .i64 2) (.int .i64 4) ∧ u.cell? ⟨g1, 0, none⟩ = some (.int .i64 2) ∧ u.cell? ⟨g1, 1, none⟩ = some (.int .i64 4) ∧ Cell2 u g2 (.int .i64 (-4)) (.int .i64 (-3)) ∧ u.cell? ⟨g2, 0, none⟩ = some (.int .i64 (-4)) ∧ u.cell? ⟨g2, 1, none⟩ = some (.int .i64 (-3)) ∧ Cell2 u g3 (.int .i64 0) (.int .i64 9) ∧ u.cell? ⟨g3, 0, none⟩ = some (.int .i64 0) ∧ u.cell? ⟨g3, 1, none⟩ = some (.int .i64 9) ∧ Cell2 u g4 (.int .i64 3) (.int .i64 4) ∧ u.cell? ⟨g4, 0, none⟩ = some (.int .i64 3) ∧ u.cell? ⟨g4, 1, none⟩ = some (.int .i64 4) ∧ Cell2 u g5 (.int .i64 3141592) (.int .i64 3141593) ∧ u.cell? ⟨g5, 0, none⟩ = some (.int .i64 3141592) ∧ u.cell? ⟨g5, 1, none⟩ = some (.int .i64 3141593) ∧ Cell2 u g6 (.int .i64 785398) (.int .i64 785399) ∧ u.cell? ⟨g6, 0, none⟩ = some (.int .i64 785398) ∧ u.cell? ⟨g6, 1, none⟩ = some (.int .i64 785399)) u → u.cell? ⟨g0, 0, none⟩ = some (.int .i64 (-21)) ∧ u.cell? ⟨g0, 1, none⟩ = some (.int .i64 14) from fun u h => ⟨h.2.2.1, h.2.2.2.1⟩)
  simp only at LK0
  have LK1 := Lib.hid (show ∀ u, (fun u => Below w.heap.size w u ∧ Cell2 u g0 (.int .i64 (-21)) (.int .i64 14) ∧ u.cell? ⟨g0, 0, none⟩ = some (.int .i64 (-21)) ∧ u.cell? ⟨g0, 1, none⟩ = some (.int .i64 14) ∧ Cell2 u g1 (.int .i64 2) (.int .i64 4) ∧ u.cell? ⟨g1, 0, none⟩ = some (.int .i64 2) ∧ u.cell? ⟨g1, 1, none⟩ = some (.int .i64 4) ∧ Cell2 u g2 (.int .i64 (-4)) (.int .i64 (-3)) ∧ u.cell? ⟨g2, 0, none⟩ = some (.int .i64 (-4)) ∧ u.cell? ⟨g2, 1, none⟩ = some (.int .i64 (-3)) ∧ Cell2 u g3 (.int .i64 0) (.int .i64 9) ∧ u.cell? ⟨g3, 0, none⟩ = some (.int .i64 0) ∧ u.cell? ⟨g3, 1, none⟩ = some (.int .i64 9) ∧ Cell2 u g4 (.int .i64 3) (.int .i64 4) ∧ u.cell? ⟨g4, 0, none⟩ = some (.int .i64 3) ∧ u.cell? ⟨g4, 1, none⟩ = some (.int .i64 4) ∧ Cell2 u g5 (.int .i64 3141592) (.int .i64 3141593) ∧ u.cell? ⟨g5, 0, none⟩ = some (.int .i64 3141592) ∧ u.cell? ⟨g5, 1, none⟩ = some (.int .i64 3141593) ∧ Cell2 u g6 (.int .i64 785398) (.int .i64 785399) ∧ u.cell? ⟨g6, 0, none⟩ = some (.int .i64 785398) ∧ u.cell? ⟨g6, 1, none⟩ = some (.int .i64 785399)) u → u.cell? ⟨g1, 0, none⟩ = some (.int .i64 2) ∧ u.cell? ⟨g1, 1, none⟩ = some (.int .i64 4) from fun u h => ⟨h.2.2.2.2.2.1, h.2.2.2.2.2.2.1⟩)
  simp only at LK1
  have LK2 := Lib.hid (show ∀ u, (fun u => Below w.heap.size w u ∧ Cell2 u g0 (.int .i64 (-21)) (.int .i64 14) ∧ u.cell? ⟨g0, 0, none⟩ = some (.int .i64 (-21)) ∧ u.cell? ⟨g0, 1, none⟩ = some (.int .i64 14) ∧ Cell2 u g1 (.int .i64 2) (.int .i64 4) ∧ u.cell? ⟨g1, 0, none⟩ = some (.int .i64 2) ∧ u.cell? ⟨g1, 1, none⟩ = some (.int .i64 4) ∧ Cell2 u g2 (.int .i64 (-4)) (.int .i64 (-3)) ∧ u.cell? ⟨g2, 0, none⟩ = some (.int .i64 (-4)) ∧ u.cell? ⟨g2, 1, none⟩ = some (.int .i64 (-3)) ∧ Cell2 u g3 (.int .i64 0) (.int .i64 9) ∧ u.cell? ⟨g3, 0, none⟩ = some (.int .i64 0) ∧ u.cell? ⟨g3, 1, none⟩ = some (.int .i64 9) ∧ Cell2 u g4 (.int .i64 3) (.int .i64 4) ∧ u.cell? ⟨g4, 0, none⟩ = some (.int .i64 3) ∧ u.cell? ⟨g4, 1, none⟩ = some (.int .i64 4) ∧ Cell2 u g5 (.int .i64 3141592) (.int .i64 3141593) ∧ u.cell? ⟨g5, 0, none⟩ = some (.int .i64 3141592) ∧ u.cell? ⟨g5, 1, none⟩ = some (.int .i64 3141593) ∧ Cell2 u g6 (.int .i64 785398) (.int .i64 785399) ∧ u.cell? ⟨g6, 0, none⟩ = some (.int .i64 785398) ∧ u.cell? ⟨g6, 1, none⟩ = some (.int .i64 785399)) u → u.cell? ⟨g2, 0, none⟩ = some (.int .i64 (-4)) ∧ u.cell? ⟨g2, 1, none⟩ = some (.int .i64 (-3)) from fun u h => ⟨h.2.2.2.2.2.2.2.2.1, h.2.2.2.2.2.2.2.2.2.1⟩)
  simp only at LK2
  have LK3 := Lib.hid (show ∀ u, (fun u => Below w.heap.size w u ∧ Cell2 u g0 (.int .i64 (-21)) (.int .i64 14) ∧ u.cell? ⟨g0, 0, none⟩ = some (.int .i64 (-21)) ∧ u.cell? ⟨g0, 1, none⟩ = some (.int .i64 14) ∧ Cell2 u g1 (.int .i64 2) (.int .i64 4) ∧ u.cell? ⟨g1, 0, none⟩ = some (.int .i64 2) ∧ u.cell? ⟨g1, 1, none⟩ = some (.int .i64 4) ∧ Cell2 u g2 (.int .i64 (-4)) (.int .i64 (-3)) ∧ u.cell? ⟨g2, 0, none⟩ = some (.int .i64 (-4)) ∧ u.cell? ⟨g2, 1, none⟩ = some (.int .i64 (-3)) ∧ Cell2 u g3 (.int .i64 0) (.int .i64 9) ∧ u.cell? ⟨g3, 0, none⟩ = some (.int .i64 0) ∧ u.cell? ⟨g3, 1, none⟩ = some (.int .i64 9) ∧ Cell2 u g4 (.int .i64 3) (.int .i64 4) ∧ u.cell? ⟨g4, 0, none⟩ = some (.int .i64 3) ∧ u.cell? ⟨g4, 1, none⟩ = some (.int .i64 4) ∧ Cell2 u g5 (.int .i64 3141592) (.int .i64 3141593) ∧ u.cell? ⟨g5, 0, none⟩ = some (.int .i64 3141592) ∧ u.cell? ⟨g5, 1, none⟩ = some (.int .i64 3141593) ∧ Cell2 u g6 (.int .i64 785398) (.int .i64 785399) ∧ u.cell? ⟨g6, 0, none⟩ = some (.int .i64 785398) ∧ u.cell? ⟨g6, 1, none⟩ = some (.int .i64 785399)) u → u.cell? ⟨g3, 0, none⟩ = some (.int .i64 0) ∧ u.cell? ⟨g3, 1, none⟩ = some (.int .i64 9) from fun u h => ⟨h.2.2.2.2.2.2.2.2.2.2.2.1, h.2.2.2.2.2.2.2.2.2.2.2.2.1⟩)
  simp only at LK3
  have LK4 := Lib.hid (show ∀ u, (fun u => Below w.heap.size w u ∧ Cell2 u g0 (.int .i64 (-21)) (.int .i64 14) ∧ u.cell? ⟨g0, 0, none⟩ = some (.int .i64 (-21)) ∧ u.cell? ⟨g0, 1, none⟩ = some (.int .i64 14) ∧ Cell2 u g1 (.int .i64 2) (.int .i64 4) ∧ u.cell? ⟨g1, 0, none⟩ = some (.int .i64 2) ∧ u.cell? ⟨g1, 1, none⟩ = some (.int .i64 4) ∧ Cell2 u g2 (.int .i64 (-4)) (.int .i64 (-3)) ∧ u.cell? ⟨g2, 0, none⟩ = some (.int .i64 (-4)) ∧ u.cell? ⟨g2, 1, none⟩ = some (.int .i64 (-3)) ∧ Cell2 u g3 (.int .i64 0) (.int .i64 9) ∧ u.cell? ⟨g3, 0, none⟩ = some (.int .i64 0) ∧ u.cell? ⟨g3, 1, none⟩ = some (.int .i64 9) ∧ Cell2 u g4 (.int .i64 3) (.int .i64 4) ∧ u.cell? ⟨g4, 0, none⟩ = some (.int .i64 3) ∧ u.cell? ⟨g4, 1, none⟩ = some (.int .i64 4) ∧ Cell2 u g5 (.int .i64 3141592) (.int .i64 3141593) ∧ u.cell? ⟨g5, 0, none⟩ = some (.int .i64 3141592) ∧ u.cell? ⟨g5, 1, none⟩ = some (.int .i64 3141593) ∧ Cell2 u g6 (.int .i64 785398) (.int .i64 785399) ∧ u.cell? ⟨g6, 0, none⟩ = some (.int .i64 785398) ∧ u.cell? ⟨g6, 1, none⟩ = some (.int .i64 785399)) u → u.cell? ⟨g4, 0, none⟩ = some (.int .i64 3) ∧ u.cell? ⟨g4, 1, none⟩ = some (.int .i64 4) from fun u h => ⟨h.2.2.2.2.2.2.2.2.2.2.2.2.2.2.1, h.2.2.2.2.2.2.2.2.2.2.2.2.2.2.2.1⟩)
  simp only at LK4
  have LK5 := Lib.hid (show ∀ u, (fun u => Below w.heap.size w u ∧ Cell2 u g0 (.int .i64 (-21)) (.int .i64 14) ∧ u.cell? ⟨g0, 0, none⟩ = some (.int .i64 (-21)) ∧ u.cell? ⟨g0, 1, none⟩ = some (.int .i64 14) ∧ Cell2 u g1 (.int .i64 2) (.int .i64 4) ∧ u.cell? ⟨g1, 0, none⟩ = some (.int .i64 2) ∧ u.cell? ⟨g1, 1, none⟩ = some (.int .i64 4) ∧ Cell2 u g2 (.int .i64 (-4)) (.int .i64 (-3)) ∧ u.cell? ⟨g2, 0, none⟩ = some (.int .i64 (-4)) ∧ u.cell? ⟨g2, 1, none⟩ = some (.int .i64 (-3)) ∧ Cell2 u g3 (.int .i64 0) (.int .i64 9) ∧ u.cell? ⟨g3, 0, none⟩ = some (.int .i64 0) ∧ u.cell? ⟨g3, 1, none⟩ = some (.int .i64 9) ∧ Cell2 u g4 (.int .i64 3) (.int .i64 4) ∧ u.cell? ⟨g4, 0, none⟩ = some (.int .i64 3) ∧ u.cell? ⟨g4, 1, none⟩ = some (.int .i64 4) ∧ Cell2 u g5 (.int .i64 3141592) (.int .i64 3141593) ∧ u.cell? ⟨g5, 0, none⟩ = some (.int .i64 3141592) ∧ u.cell? ⟨g5, 1, none⟩ = some (.int .i64 3141593) ∧ Cell2 u g6 (.int .i64 785398) (.int .i64 785399) ∧ u.cell? ⟨g6, 0, none⟩ = some (.int .i64 785398) ∧ u.cell? ⟨g6, 1, none⟩ = some (.int .i64 785399)) u → u.cell? ⟨g5, 0, none⟩ = some (.int .i64 3141592) ∧ u.cell? ⟨g5, 1, none⟩ = some (.int .i64 3141593) from fun u h => ⟨h.2.2.2.2.2.2.2.2.2.2.2.2.2.2.2.2.2.1, h.2.2.2.2.2.2.2.2.2.2.2.2.2.2.2.2.2.2.1⟩)
  simp only at LK5
  have LK6 := Lib.hid (show ∀ u, (fun u => Below w.heap.size w u ∧ Cell2 u g0 (.int .i64 (-21)) (.int .i64 14) ∧ u.cell? ⟨g0, 0, none⟩ = some (.int .i64 (-21)) ∧ u.cell? ⟨g0, 1, none⟩ = some (.int .i64 14) ∧ Cell2 u g1 (.int .i64 2) (.int .i64 4) ∧ u.cell? ⟨g1, 0, none⟩ = some (.int .i64 2) ∧ u.cell? ⟨g1, 1, none⟩ = some (.int .i64 4) ∧ Cell2 u g2 (.int .i64 (-4)) (.int .i64 (-3)) ∧ u.cell? ⟨g2, 0, none⟩ = some (.int .i64 (-4)) ∧ u.cell? ⟨g2, 1, none⟩ = some (.int .i64 (-3)) ∧ Cell2 u g3 (.int .i64 0) (.int .i64 9) ∧ u.cell? ⟨g3, 0, none⟩ = some (.int .i64 0) ∧ u.cell? ⟨g3, 1, none⟩ = some (.int .i64 9) ∧ Cell2 u g4 (.int .i64 3) (.int .i64 4) ∧ u.cell? ⟨g4, 0, none⟩ = some (.int .i64 3) ∧ u.cell? ⟨g4, 1, none⟩ = some (.int .i64 4) ∧ Cell2 u g5 (.int .i64 3141592) (.int .i64 3141593) ∧ u.cell? ⟨g5, 0, none⟩ = some (.int .i64 3141592) ∧ u.cell? ⟨g5, 1, none⟩ = some (.int .i64 3141593) ∧ Cell2 u g6 (.int .i64 785398) (.int .i64 785399) ∧ u.cell? ⟨g6, 0, none⟩ = some (.int .i64 785398) ∧ u.cell? ⟨g6, 1, none⟩ = some (.int .i64 785399)) u → u.cell? ⟨g6, 0, none⟩ = some (.int .i64 785398) ∧ u.cell? ⟨g6, 1, none⟩ = some (.int .i64 785399) from fun u h => ⟨h.2.2.2.2.2.2.2.2.2.2.2.2.2.2.2.2.2.2.2.2.1, h.2.2.2.2.2.2.2.2.2.2.2.2.2.2.2.2.2.2.2.2.2⟩)
  simp only at LK6
  refine call_take (i := 0) (v := .agg #[.int .i64 (-21), .int .i64 14]) rfl (by kernel_rfl) (by kernel_rfl) (by kernel_rfl) (fun _ _ _ h => h) ⟨by kernel_rfl, .inr (fun w' hSw => by have q0 := (LK0.out w' hSw).1; have q1 := (LK0.out w' hSw).2; clear hSw; go_simp)⟩ ?_
  simp only [Act.put, List.getElem_toArray, List.getElem_cons_succ, List.getElem_cons_zero, List.setIfInBounds_toArray, List.set_cons_zero, List.set_cons_succ]
  refine call_take (i := 1) (v := .agg #[.int .i64 (-21), .int .i64 14]) rfl (by kernel_rfl) (by kernel_rfl) (by kernel_rfl) (fun _ _ _ h => h) ⟨by kernel_rfl, .inl ⟨41, #[.int .i64 (-21), .int .i64 14], fun w' => by go_simp, fun w' hw => (IV.out (-21) 14 w').mono fun e u ⟨h1, h2⟩ => ⟨h1, h2, HS.out w' u hw h2⟩⟩⟩ ?_
  simp only [Act.put, List.getElem_toArray, List.getElem_cons_succ, List.getElem_cons_zero, List.setIfInBounds_toArray, List.set_cons_zero, List.set_cons_succ]
  refine call_take (i := 2) (v := .bool true) rfl (by kernel_rfl) (by kernel_rfl) (by kernel_rfl) (fun _ _ _ h => h) ⟨by kernel_rfl, .inr (fun w' _ => by go_simp)⟩ ?_
  simp only [Act.put, List.getElem_toArray, List.getElem_cons_succ, List.getElem_cons_zero, List.setIfInBounds_toArray, List.set_cons_zero, List.set_cons_succ]
  refine call_take (i := 3) (v := .bool true) rfl (by kernel_rfl) (by kernel_rfl) (by kernel_rfl) (fun _ _ _ h => h) ⟨by kernel_rfl, .inr (fun w' _ => by go_simp)⟩ ?_
  simp only [Act.put, List.getElem_toArray, List.getElem_cons_succ, List.getElem_cons_zero, List.setIfInBounds_toArray, List.set_cons_zero, List.set_cons_succ]
  refine call_take (i := 4) (v := .agg #[.int .i64 2, .int .i64 4]) rfl (by kernel_rfl) (by kernel_rfl) (by kernel_rfl) (fun _ _ _ h => h) ⟨by kernel_rfl, .inr (fun w' hSw => by have q0 := (LK1.out w' hSw).1; have q1 := (LK1.out w' hSw).2; clear hSw; go_simp)⟩ ?_
  simp only [Act.put, List.getElem_toArray, List.getElem_cons_succ, List.getElem_cons_zero, List.setIfInBounds_toArray, List.set_cons_zero, List.set_cons_succ]
  refine call_take (i := 5) (v := .agg #[.int .i64 2, .int .i64 4]) rfl (by kernel_rfl) (by kernel_rfl) (by kernel_rfl) (fun _ _ _ h => h) ⟨by kernel_rfl, .inl ⟨41, #[.int .i64 2, .int .i64 4], fun w' => by go_simp, fun w' hw => (IV.out 2 4 w').mono fun e u ⟨h1, h2⟩ => ⟨h1, h2, HS.out w' u hw h2⟩⟩⟩ ?_
  simp only [Act.put, List.getElem_toArray, List.getElem_cons_succ, List.getElem_cons_zero, List.setIfInBounds_toArray, List.set_cons_zero, List.set_cons_succ]
  refine call_take (i := 6) (v := .bool true) rfl (by kernel_rfl) (by kernel_rfl) (by kernel_rfl) (fun _ _ _ h => h) ⟨by kernel_rfl, .inr (fun w' _ => by go_simp)⟩ ?_
  simp only [Act.put, List.getElem_toArray, List.getElem_cons_succ, List.getElem_cons_zero, List.setIfInBounds_toArray, List.set_cons_zero, List.set_cons_succ]
  refine call_take (i := 7) (v := .bool true) rfl (by kernel_rfl) (by kernel_rfl) (by kernel_rfl) (fun _ _ _ h => h) ⟨by kernel_rfl, .inr (fun w' _ => by go_simp)⟩ ?_
  simp only [Act.put, List.getElem_toArray, List.getElem_cons_succ, List.getElem_cons_zero, List.setIfInBounds_toArray, List.set_cons_zero, List.set_cons_succ]
  refine call_take (i := 8) (v := .bool true) rfl (by kernel_rfl) (by kernel_rfl) (by kernel_rfl) (fun _ _ _ h => h) ⟨by kernel_rfl, .inr (fun w' _ => by go_simp)⟩ ?_
  simp only [Act.put, List.getElem_toArray, List.getElem_cons_succ, List.getElem_cons_zero, List.setIfInBounds_toArray, List.set_cons_zero, List.set_cons_succ]
  refine call_take (i := 9) (v := .agg #[.int .i64 (-4), .int .i64 (-3)]) rfl (by kernel_rfl) (by kernel_rfl) (by kernel_rfl) (fun _ _ _ h => h) ⟨by kernel_rfl, .inr (fun w' hSw => by have q0 := (LK2.out w' hSw).1; have q1 := (LK2.out w' hSw).2; clear hSw; go_simp)⟩ ?_
  simp only [Act.put, List.getElem_toArray, List.getElem_cons_succ, List.getElem_cons_zero, List.setIfInBounds_toArray, List.set_cons_zero, List.set_cons_succ]
  refine call_take (i := 10) (v := .agg #[.int .i64 (-4), .int .i64 (-3)]) rfl (by kernel_rfl) (by kernel_rfl) (by kernel_rfl) (fun _ _ _ h => h) ⟨by kernel_rfl, .inl ⟨41, #[.int .i64 (-4), .int .i64 (-3)], fun w' => by go_simp, fun w' hw => (IV.out (-4) (-3) w').mono fun e u ⟨h1, h2⟩ => ⟨h1, h2, HS.out w' u hw h2⟩⟩⟩ ?_
  simp only [Act.put, List.getElem_toArray, List.getElem_cons_succ, List.getElem_cons_zero, List.setIfInBounds_toArray, List.set_cons_zero, List.set_cons_succ]
  refine call_take (i := 11) (v := .bool true) rfl (by kernel_rfl) (by kernel_rfl) (by kernel_rfl) (fun _ _ _ h => h) ⟨by kernel_rfl, .inr (fun w' _ => by go_simp)⟩ ?_
  simp only [Act.put, List.getElem_toArray, List.getElem_cons_succ, List.getElem_cons_zero, List.setIfInBounds_toArray, List.set_cons_zero, List.set_cons_succ]
  refine call_take (i := 12) (v := .bool true) rfl (by kernel_rfl) (by kernel_rfl) (by kernel_rfl) (fun _ _ _ h => h) ⟨by kernel_rfl, .inr (fun w' _ => by go_simp)⟩ ?_
  simp only [Act.put, List.getElem_toArray, List.getElem_cons_succ, List.getElem_cons_zero, List.setIfInBounds_toArray, List.set_cons_zero, List.set_cons_succ]
  refine call_take (i := 13) (v := .bool true) rfl (by kernel_rfl) (by kernel_rfl) (by kernel_rfl) (fun _ _ _ h => h) ⟨by kernel_rfl, .inr (fun w' _ => by go_simp)⟩ ?_
  simp only [Act.put, List.getElem_toArray, List.getElem_cons_succ, List.getElem_cons_zero, List.setIfInBounds_toArray, List.set_cons_zero, List.set_cons_succ]
  refine call_take (i := 14) (v := .agg #[.int .i64 0, .int .i64 9]) rfl (by kernel_rfl) (by kernel_rfl) (by kernel_rfl) (fun _ _ _ h => h) ⟨by kernel_rfl, .inr (fun w' hSw => by have q0 := (LK3.out w' hSw).1; have q1 := (LK3.out w' hSw).2; clear hSw; go_simp)⟩ ?_
  simp only [Act.put, List.getElem_toArray, List.getElem_cons_succ, List.getElem_cons_zero, List.setIfInBounds_toArray, List.set_cons_zero, List.set_cons_succ]
  refine call_take (i := 15) (v := .agg #[.int .i64 0, .int .i64 9]) rfl (by kernel_rfl) (by kernel_rfl) (by kernel_rfl) (fun _ _ _ h => h) ⟨by kernel_rfl, .inl ⟨41, #[.int .i64 0, .int .i64 9], fun w' => by go_simp, fun w' hw => (IV.out 0 9 w').mono fun e u ⟨h1, h2⟩ => ⟨h1, h2, HS.out w' u hw h2⟩⟩⟩ ?_
  simp only [Act.put, List.getElem_toArray, List.getElem_cons_succ, List.getElem_cons_zero, List.setIfInBounds_toArray, List.set_cons_zero, List.set_cons_succ]
  refine call_take (i := 16) (v := .bool true) rfl (by kernel_rfl) (by kernel_rfl) (by kernel_rfl) (fun _ _ _ h => h) ⟨by kernel_rfl, .inr (fun w' _ => by go_simp)⟩ ?_
  simp only [Act.put, List.getElem_toArray, List.getElem_cons_succ, List.getElem_cons_zero, List.setIfInBounds_toArray, List.set_cons_zero, List.set_cons_succ]
  refine call_take (i := 17) (v := .bool true) rfl (by kernel_rfl) (by kernel_rfl) (by kernel_rfl) (fun _ _ _ h => h) ⟨by kernel_rfl, .inr (fun w' _ => by go_simp)⟩ ?_
  simp only [Act.put, List.getElem_toArray, List.getElem_cons_succ, List.getElem_cons_zero, List.setIfInBounds_toArray, List.set_cons_zero, List.set_cons_succ]
  refine call_take (i := 18) (v := .bool true) rfl (by kernel_rfl) (by kernel_rfl) (by kernel_rfl) (fun _ _ _ h => h) ⟨by kernel_rfl, .inr (fun w' _ => by go_simp)⟩ ?_
  simp only [Act.put, List.getElem_toArray, List.getElem_cons_succ, List.getElem_cons_zero, List.setIfInBounds_toArray, List.set_cons_zero, List.set_cons_succ]
  refine call_take (i := 19) (v := .agg #[.int .i64 3, .int .i64 4]) rfl (by kernel_rfl) (by kernel_rfl) (by kernel_rfl) (fun _ _ _ h => h) ⟨by kernel_rfl, .inr (fun w' hSw => by have q0 := (LK4.out w' hSw).1; have q1 := (LK4.out w' hSw).2; clear hSw; go_simp)⟩ ?_
  simp only [Act.put, List.getElem_toArray, List.getElem_cons_succ, List.getElem_cons_zero, List.setIfInBounds_toArray, List.set_cons_zero, List.set_cons_succ]
  refine call_take (i := 20) (v := .agg #[.int .i64 3, .int .i64 4]) rfl (by kernel_rfl) (by kernel_rfl) (by kernel_rfl) (fun _ _ _ h => h) ⟨by kernel_rfl, .inl ⟨41, #[.int .i64 3, .int .i64 4], fun w' => by go_simp, fun w' hw => (IV.out 3 4 w').mono fun e u ⟨h1, h2⟩ => ⟨h1, h2, HS.out w' u hw h2⟩⟩⟩ ?_
  simp only [Act.put, List.getElem_toArray, List.getElem_cons_succ, List.getElem_cons_zero, List.setIfInBounds_toArray, List.set_cons_zero, List.set_cons_succ]
  refine call_take (i := 21) (v := .bool true) rfl (by kernel_rfl) (by kernel_rfl) (by kernel_rfl) (fun _ _ _ h => h) ⟨by kernel_rfl, .inr (fun w' _ => by go_simp)⟩ ?_
  simp only [Act.put, List.getElem_toArray, List.getElem_cons_succ, List.getElem_cons_zero, List.setIfInBounds_toArray, List.set_cons_zero, List.set_cons_succ]
  refine call_take (i := 22) (v := .bool true) rfl (by kernel_rfl) (by kernel_rfl) (by kernel_rfl) (fun _ _ _ h => h) ⟨by kernel_rfl, .inr (fun w' _ => by go_simp)⟩ ?_
  simp only [Act.put, List.getElem_toArray, List.getElem_cons_succ, List.getElem_cons_zero, List.setIfInBounds_toArray, List.set_cons_zero, List.set_cons_succ]
  refine call_take (i := 23) (v := .bool true) rfl (by kernel_rfl) (by kernel_rfl) (by kernel_rfl) (fun _ _ _ h => h) ⟨by kernel_rfl, .inr (fun w' _ => by go_simp)⟩ ?_
  simp only [Act.put, List.getElem_toArray, List.getElem_cons_succ, List.getElem_cons_zero, List.setIfInBounds_toArray, List.set_cons_zero, List.set_cons_succ]
  refine call_take (i := 24) (v := .agg #[.int .i64 3141592, .int .i64 3141593]) rfl (by kernel_rfl) (by kernel_rfl) (by kernel_rfl) (fun _ _ _ h => h) ⟨by kernel_rfl, .inr (fun w' hSw => by have q0 := (LK5.out w' hSw).1; have q1 := (LK5.out w' hSw).2; clear hSw; go_simp)⟩ ?_
  simp only [Act.put, List.getElem_toArray, List.getElem_cons_succ, List.getElem_cons_zero, List.setIfInBounds_toArray, List.set_cons_zero, List.set_cons_succ]
  refine call_take (i := 25) (v := .agg #[.int .i64 3141592, .int .i64 3141593]) rfl (by kernel_rfl) (by kernel_rfl) (by kernel_rfl) (fun _ _ _ h => h) ⟨by kernel_rfl, .inl ⟨41, #[.int .i64 3141592, .int .i64 3141593], fun w' => by go_simp, fun w' hw => (IV.out 3141592 3141593 w').mono fun e u ⟨h1, h2⟩ => ⟨h1, h2, HS.out w' u hw h2⟩⟩⟩ ?_
  simp only [Act.put, List.getElem_toArray, List.getElem_cons_succ, List.getElem_cons_zero, List.setIfInBounds_toArray, List.set_cons_zero, List.set_cons_succ]
  refine call_take (i := 26) (v := .bool true) rfl (by kernel_rfl) (by kernel_rfl) (by kernel_rfl) (fun _ _ _ h => h) ⟨by kernel_rfl, .inr (fun w' _ => by go_simp)⟩ ?_
  simp only [Act.put, List.getElem_toArray, List.getElem_cons_succ, List.getElem_cons_zero, List.setIfInBounds_toArray, List.set_cons_zero, List.set_cons_succ]
  refine call_take (i := 27) (v := .bool true) rfl (by kernel_rfl) (by kernel_rfl) (by kernel_rfl) (fun _ _ _ h => h) ⟨by kernel_rfl, .inr (fun w' _ => by go_simp)⟩ ?_
  simp only [Act.put, List.getElem_toArray, List.getElem_cons_succ, List.getElem_cons_zero, List.setIfInBounds_toArray, List.set_cons_zero, List.set_cons_succ]
  refine call_take (i := 28) (v := .bool true) rfl (by kernel_rfl) (by kernel_rfl) (by kernel_rfl) (fun _ _ _ h => h) ⟨by kernel_rfl, .inr (fun w' _ => by go_simp)⟩ ?_
  simp only [Act.put, List.getElem_toArray, List.getElem_cons_succ, List.getElem_cons_zero, List.setIfInBounds_toArray, List.set_cons_zero, List.set_cons_succ]
  refine call_take (i := 29) (v := .agg #[.int .i64 785398, .int .i64 785399]) rfl (by kernel_rfl) (by kernel_rfl) (by kernel_rfl) (fun _ _ _ h => h) ⟨by kernel_rfl, .inr (fun w' hSw => by have q0 := (LK6.out w' hSw).1; have q1 := (LK6.out w' hSw).2; clear hSw; go_simp)⟩ ?_
  simp only [Act.put, List.getElem_toArray, List.getElem_cons_succ, List.getElem_cons_zero, List.setIfInBounds_toArray, List.set_cons_zero, List.set_cons_succ]
  refine call_take (i := 30) (v := .agg #[.int .i64 785398, .int .i64 785399]) rfl (by kernel_rfl) (by kernel_rfl) (by kernel_rfl) (fun _ _ _ h => h) ⟨by kernel_rfl, .inl ⟨41, #[.int .i64 785398, .int .i64 785399], fun w' => by go_simp, fun w' hw => (IV.out 785398 785399 w').mono fun e u ⟨h1, h2⟩ => ⟨h1, h2, HS.out w' u hw h2⟩⟩⟩ ?_
  simp only [Act.put, List.getElem_toArray, List.getElem_cons_succ, List.getElem_cons_zero, List.setIfInBounds_toArray, List.set_cons_zero, List.set_cons_succ]
  refine call_take (i := 31) (v := .bool true) rfl (by kernel_rfl) (by kernel_rfl) (by kernel_rfl) (fun _ _ _ h => h) ⟨by kernel_rfl, .inr (fun w' _ => by go_simp)⟩ ?_
  simp only [Act.put, List.getElem_toArray, List.getElem_cons_succ, List.getElem_cons_zero, List.setIfInBounds_toArray, List.set_cons_zero, List.set_cons_succ]
  refine call_take (i := 32) (v := .bool true) rfl (by kernel_rfl) (by kernel_rfl) (by kernel_rfl) (fun _ _ _ h => h) ⟨by kernel_rfl, .inr (fun w' _ => by go_simp)⟩ ?_
  simp only [Act.put, List.getElem_toArray, List.getElem_cons_succ, List.getElem_cons_zero, List.setIfInBounds_toArray, List.set_cons_zero, List.set_cons_succ]
  refine call_take (i := 33) (v := .bool true) rfl (by kernel_rfl) (by kernel_rfl) (by kernel_rfl) (fun _ _ _ h => h) ⟨by kernel_rfl, .inr (fun w' _ => by go_simp)⟩ ?_
  simp only [Act.put, List.getElem_toArray, List.getElem_cons_succ, List.getElem_cons_zero, List.setIfInBounds_toArray, List.set_cons_zero, List.set_cons_succ]
  refine E_done (by kernel_rfl) (fun u hu => ?_) _
  have HB := Lib.hid hu.2.1
  clear hu SO HS
  go_wp2_with fail
  go_ret
  exact ⟨by kernel_rfl, HB.out⟩
end Go.Proofs.Ytmmgbofhbnflkaa
