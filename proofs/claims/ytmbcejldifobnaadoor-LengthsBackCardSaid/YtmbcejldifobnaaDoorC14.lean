import Derived.Test.YtmbcejldifobnaaDoorC13
namespace Go.Proofs.YtmbcejldifobnaaDoor.Ln
open Go.RowKit Tp Sp Pc
def winB (x y u v : Int) : Bool := decide (u ≤ x) && decide (y ≤ v)
theorem winB_iff {x y u v : Int} : winB x y u v = true ↔ u ≤ x ∧ y ≤ v := by unfold winB; rw [Bool.and_eq_true, decide_eq_true_eq, decide_eq_true_eq]
theorem winB_no {x y u v : Int} (h : winB x y u v = false) : ¬ (u ≤ x ∧ y ≤ v) := fun g => by rw [winB_iff.2 g] at h; cases h
set_option maxRecDepth 100000 in
set_option maxHeartbeats 2000000 in
theorem within8_any (x y u v : Int) (w : World) : Calls Tryd.prog 35 #[.agg #[.int .i64 x, .int .i64 y], .agg #[.int .i64 u, .int .i64 v]] w fun r w' => r = .returned (.bool (winB x y u v)) ∧ Below w.heap.size w w' := by
  refine calls_of_wp Tryd.func35 rfl ?_
  refine Boxw.out ?_
  have HL0 := Loc.start w
  refine aw_seq ?_
  refine aw_reg ?_
  refine aw_new 55 [.int .i64 x, .int .i64 y] HL0 (by kernel_rfl) (by kernel_rfl) ?_
  intro g1 w2 HL3
  clear HL0
  refine aw_new 55 [.int .i64 u, .int .i64 v] HL3 (by kernel_rfl) (by kernel_rfl) ?_
  intro g4 w5 HL6
  clear HL3
  refine aw_val (v := .bool false) (.bool false) (by kernel_rfl) (by kernel_rfl) (rfl) ?_
  refine aw_nil ?_
  refine aw_n_then ?_
  refine aw_seq ?_
  refine aw_reg ?_
  refine aw_val (v := .pointer (some ⟨g1, 0, none⟩)) (.pointer (some ⟨g1, 0, none⟩)) (by kernel_rfl) (by kernel_rfl) (rfl) ?_
  refine aw_load 2 (.tmp 5) 1 g1 0 55 [.int .i64 x, .int .i64 y] (.int .i64 x) _ HL6 (by kernel_rfl) rfl (by kernel_rfl) rfl rfl Tryd.underlying2 rfl ?_
  refine aw_val (v := .pointer (some ⟨g4, 0, none⟩)) (.pointer (some ⟨g4, 0, none⟩)) (by kernel_rfl) (by kernel_rfl) (rfl) ?_
  refine aw_load 2 (.tmp 7) 0 g4 0 55 [.int .i64 u, .int .i64 v] (.int .i64 u) _ HL6 (by kernel_rfl) rfl (by kernel_rfl) rfl rfl Tryd.underlying2 rfl ?_
  refine aw_fork (decide (u ≤ x)) (by kernel_rfl) (by kernel_rfl) ?_ ?_
  · intro f7
    have k7 := of_decide_eq_true f7
    refine aw_val (v := .bool true) (.bool true) (by kernel_rfl) (by kernel_rfl) (rfl) ?_
    refine aw_val (v := .pointer (some ⟨g1, 1, none⟩)) (.pointer (some ⟨g1, 1, none⟩)) (by kernel_rfl) (by kernel_rfl) (rfl) ?_
    refine aw_load 2 (.tmp 11) 1 g1 1 55 [.int .i64 x, .int .i64 y] (.int .i64 y) _ HL6 (by kernel_rfl) rfl (by kernel_rfl) rfl rfl Tryd.underlying2 rfl ?_
    refine aw_val (v := .pointer (some ⟨g4, 1, none⟩)) (.pointer (some ⟨g4, 1, none⟩)) (by kernel_rfl) (by kernel_rfl) (rfl) ?_
    refine aw_load 2 (.tmp 13) 0 g4 1 55 [.int .i64 u, .int .i64 v] (.int .i64 v) _ HL6 (by kernel_rfl) rfl (by kernel_rfl) rfl rfl Tryd.underlying2 rfl ?_
    refine aw_fork (decide (y ≤ v)) (by kernel_rfl) (by kernel_rfl) ?_ ?_
    · intro f9
      have k9 := of_decide_eq_true f9
      refine aw_val (v := .bool true) (.bool true) (by kernel_rfl) (by kernel_rfl) (rfl) ?_
      refine aw_val (v := .bool true) (.bool true) (by kernel_rfl) (by kernel_rfl) (rfl) ?_
      refine aw_nil ?_
      refine aw_n_then ?_
      refine aw_ret ?_
      refine aw_end (.bool true) rfl (by kernel_rfl) ?_
      refine ⟨?_, HL6.bel⟩
      unfold winB; simp only [f7, f9]; rfl
    · intro f10
      have k10 := of_decide_eq_false f10
      refine aw_val (v := .bool false) (.bool false) (by kernel_rfl) (by kernel_rfl) (rfl) ?_
      refine aw_val (v := .bool false) (.bool false) (by kernel_rfl) (by kernel_rfl) (rfl) ?_
      refine aw_nil ?_
      refine aw_n_then ?_
      refine aw_ret ?_
      refine aw_end (.bool false) rfl (by kernel_rfl) ?_
      refine ⟨?_, HL6.bel⟩
      unfold winB; simp only [f7, f10]; rfl
  · intro f8
    have k8 := of_decide_eq_false f8
    refine aw_val (v := .bool false) (.bool false) (by kernel_rfl) (by kernel_rfl) (rfl) ?_
    refine aw_pass  (by kernel_rfl) ?_
    refine aw_pass  (by kernel_rfl) ?_
    refine aw_pass  (by kernel_rfl) ?_
    refine aw_pass  (by kernel_rfl) ?_
    refine aw_pass  (by kernel_rfl) ?_
    refine aw_val (v := .bool false) (.bool false) (by kernel_rfl) (by kernel_rfl) (rfl) ?_
    refine aw_val (v := .bool false) (.bool false) (by kernel_rfl) (by kernel_rfl) (rfl) ?_
    refine aw_nil ?_
    refine aw_n_then ?_
    refine aw_ret ?_
    refine aw_end (.bool false) rfl (by kernel_rfl) ?_
    refine ⟨?_, HL6.bel⟩
    unfold winB; simp only [f8]; rfl

set_option maxRecDepth 100000 in
set_option maxHeartbeats 2000000 in
theorem number8_any (n : Int) (w : World) : Calls Tryd.prog 38 #[.int .i64 n] w fun r w' => r = .returned (.agg #[.int .i64 n, .int .i64 n]) ∧ Below w.heap.size w w' := by
  refine calls_of_wp Tryd.func38 rfl ?_
  refine Boxw.out ?_
  have HL0 := Loc.start w
  refine aw_seq ?_
  refine aw_reg ?_
  refine aw_new 55 [.int .i64 0, .int .i64 0] HL0 (by kernel_rfl) (by kernel_rfl) ?_
  intro g1 w2 HL3
  clear HL0
  refine aw_nil ?_
  refine aw_n_then ?_
  refine aw_seq ?_
  refine aw_reg ?_
  refine aw_val (v := .int .i64 n) (.int .i64 n) (by kernel_rfl) (by kernel_rfl) (rfl) ?_
  refine aw_val (v := .int .i64 n) (.int .i64 n) (by kernel_rfl) (by kernel_rfl) (rfl) ?_
  refine aw_val (v := .agg #[.int .i64 n, .int .i64 n]) (.agg #[.int .i64 n, .int .i64 n]) (by kernel_rfl) (by kernel_rfl) (rfl) ?_
  refine aw_store 55 (.tmp 2) (.tmp 5) 0 g1 0 55 [.int .i64 0, .int .i64 0] [.int .i64 n, .int .i64 n] [.int .i64 n, .int .i64 n] [(g1, 55, [.int .i64 n, .int .i64 n])] HL3 (by kernel_rfl) rfl (by kernel_rfl) (by kernel_rfl) rfl (by kernel_rfl) (by kernel_rfl) (Nat.le_of_ble_eq_true rfl) rfl rfl ?_
  intro w4 HL5
  clear HL3
  refine aw_nil ?_
  refine aw_n_then ?_
  refine aw_ret ?_
  refine aw_end (.agg #[.int .i64 n, .int .i64 n]) rfl (res_c Tryd.results38 (by kernel_rfl) (loc_var HL5 (i := 0) rfl Tryd.underlying55 rfl (by kernel_rfl))) ?_
  exact ⟨rfl, HL5.bel⟩

set_option maxRecDepth 100000 in
set_option maxHeartbeats 2000000 in
theorem example_any (w : World) : Calls Tryd.prog 86 #[] w fun r w' => r = .returned (.agg #[.int .i64 1, .int .i64 50000, .int .i64 50000, .int .i64 40000, .int .i64 10000]) ∧ Below w.heap.size w w' := by
  refine calls_of_wp Tryd.func86 rfl ?_
  refine Boxw.out ?_
  have HL0 := Loc.start w
  refine aw_seq ?_
  refine aw_reg ?_
  refine aw_new 64 [.int .i64 0, .int .i64 0, .int .i64 0, .int .i64 0, .int .i64 0] HL0 (by kernel_rfl) (by kernel_rfl) ?_
  intro g1 w2 HL3
  clear HL0
  refine aw_nil ?_
  refine aw_n_then ?_
  refine aw_seq ?_
  refine aw_reg ?_
  refine aw_val (v := .agg #[.int .i64 1, .int .i64 50000, .int .i64 50000, .int .i64 40000, .int .i64 10000]) (.agg #[.int .i64 1, .int .i64 50000, .int .i64 50000, .int .i64 40000, .int .i64 10000]) (by kernel_rfl) (by kernel_rfl) (rfl) ?_
  refine aw_store 64 (.tmp 0) (.tmp 1) 0 g1 0 64 [.int .i64 0, .int .i64 0, .int .i64 0, .int .i64 0, .int .i64 0] [.int .i64 1, .int .i64 50000, .int .i64 50000, .int .i64 40000, .int .i64 10000] [.int .i64 1, .int .i64 50000, .int .i64 50000, .int .i64 40000, .int .i64 10000] [(g1, 64, [.int .i64 1, .int .i64 50000, .int .i64 50000, .int .i64 40000, .int .i64 10000])] HL3 (by kernel_rfl) rfl (by kernel_rfl) (by kernel_rfl) rfl (by kernel_rfl) (by kernel_rfl) (Nat.le_of_ble_eq_true rfl) rfl rfl ?_
  intro w4 HL5
  clear HL3
  refine aw_nil ?_
  refine aw_n_then ?_
  refine aw_ret ?_
  refine aw_end (.agg #[.int .i64 1, .int .i64 50000, .int .i64 50000, .int .i64 40000, .int .i64 10000]) rfl (res_c Tryd.results86 (by kernel_rfl) (loc_var HL5 (i := 0) rfl Tryd.underlying64 rfl (by kernel_rfl))) ?_
  exact ⟨rfl, HL5.bel⟩

theorem ex_ok : bdB 1 50000 50000 40000 10000 = true := by decide
theorem ex_i64 (n : Int) (h : n = 440000 ∨ n = 289270 ∨ n = 20000000) : I64 n ∧ I64 n := by unfold I64; omega
set_option maxRecDepth 100000 in
set_option maxHeartbeats 2000000 in
theorem shown_any (w : World) (hkd : KdL w) : Calls Tryd.prog 36 #[] w fun r w' => r = .returned (.bool true) ∧ Below w.heap.size w w' := by
  refine calls_of_wp Tryd.func36 rfl ?_
  refine Boxw.out ?_
  have HL0 := Loc.start w
  refine aw_seq ?_
  refine aw_reg ?_
  refine aw_val (v := .bool false) (.bool false) (by kernel_rfl) (by kernel_rfl) (rfl) ?_
  refine aw_nil ?_
  refine aw_n_then ?_
  refine aw_seq ?_
  refine aw_reg ?_
  refine aw_call 86 #[] (.agg #[.int .i64 1, .int .i64 50000, .int .i64 50000, .int .i64 40000, .int .i64 10000]) HL0 (by kernel_rfl) (by kernel_rfl) (example_any w) ?_
  intro w1 HL2
  clear HL0
  refine aw_call 85 #[.agg #[.int .i64 1, .int .i64 50000, .int .i64 50000, .int .i64 40000, .int .i64 10000]] (.tuple #[.agg #[.int .i64 71875, .int .i64 71875], .agg #[.int .i64 15332, .int .i64 15333], .int .i64 0]) HL2 (by kernel_rfl) (by kernel_rfl) ((by have h0 := Correction_ok 1 50000 50000 40000 10000 w1 (hkd.loc HL2) ex_ok; rw [ex_mouth, ex_end] at h0; exact h0)) ?_
  intro w3 HL4
  clear HL2
  refine aw_val (v := .tuple #[.agg #[.int .i64 71875, .int .i64 71875], .agg #[.int .i64 15332, .int .i64 15333], .int .i64 0]) (.tuple #[.agg #[.int .i64 71875, .int .i64 71875], .agg #[.int .i64 15332, .int .i64 15333], .int .i64 0]) (by kernel_rfl) (by kernel_rfl) (rfl) ?_
  refine aw_val (v := .agg #[.int .i64 71875, .int .i64 71875]) (.agg #[.int .i64 71875, .int .i64 71875]) (by kernel_rfl) (by kernel_rfl) (rfl) ?_
  refine aw_val (v := .agg #[.int .i64 15332, .int .i64 15333]) (.agg #[.int .i64 15332, .int .i64 15333]) (by kernel_rfl) (by kernel_rfl) (rfl) ?_
  refine aw_val (v := .int .i64 0) (.int .i64 0) (by kernel_rfl) (by kernel_rfl) (rfl) ?_
  refine aw_new 55 [.int .i64 0, .int .i64 0] HL4 (by kernel_rfl) (by kernel_rfl) ?_
  intro g5 w6 HL7
  clear HL4
  refine aw_new 55 [.int .i64 0, .int .i64 0] HL7 (by kernel_rfl) (by kernel_rfl) ?_
  intro g8 w9 HL10
  clear HL7
  refine aw_store 55 (.tmp 1) (.tmp 13) 1 g5 0 55 [.int .i64 0, .int .i64 0] [.int .i64 71875, .int .i64 71875] [.int .i64 71875, .int .i64 71875] [(g8, 55, [.int .i64 0, .int .i64 0]), (g5, 55, [.int .i64 71875, .int .i64 71875])] HL10 (by kernel_rfl) rfl (by kernel_rfl) (by kernel_rfl) rfl (by kernel_rfl) (by kernel_rfl) (Nat.le_of_ble_eq_true rfl) rfl rfl ?_
  intro w11 HL12
  clear HL10
  refine aw_store 55 (.tmp 2) (.tmp 14) 0 g8 0 55 [.int .i64 0, .int .i64 0] [.int .i64 15332, .int .i64 15333] [.int .i64 15332, .int .i64 15333] [(g8, 55, [.int .i64 15332, .int .i64 15333]), (g5, 55, [.int .i64 71875, .int .i64 71875])] HL12 (by kernel_rfl) rfl (by kernel_rfl) (by kernel_rfl) rfl (by kernel_rfl) (by kernel_rfl) (Nat.le_of_ble_eq_true rfl) rfl rfl ?_
  intro w13 HL14
  clear HL12
  refine aw_val (v := .int .i64 0) (.int .i64 0) (by kernel_rfl) (by kernel_rfl) (rfl) ?_
  refine aw_nil ?_
  refine aw_n_then ?_
  refine aw_seq ?_
  refine aw_reg ?_
  refine aw_call 86 #[] (.agg #[.int .i64 1, .int .i64 50000, .int .i64 50000, .int .i64 40000, .int .i64 10000]) HL14 (by kernel_rfl) (by kernel_rfl) (example_any w13) ?_
  intro w15 HL16
  clear HL14
  refine aw_call 38 #[.int .i64 440000] (.agg #[.int .i64 440000, .int .i64 440000]) HL16 (by kernel_rfl) (by kernel_rfl) (number8_any 440000 w15) ?_
  intro w17 HL18
  clear HL16
  refine aw_call 33 #[.agg #[.int .i64 1, .int .i64 50000, .int .i64 50000, .int .i64 40000, .int .i64 10000], .agg #[.int .i64 440000, .int .i64 440000], .int .i64 0] (.tuple #[.agg #[.int .i64 289269, .int .i64 289271], .int .i64 0]) HL18 (by kernel_rfl) (by kernel_rfl) ((by have h0 := Length_any 1 50000 50000 40000 10000 440000 440000 0 w17 (hkd.loc HL18) (ex_i64 440000 (by decide)); rw [spd_zero, ex_len1] at h0; exact h0)) ?_
  intro w19 HL20
  clear HL18
  refine aw_val (v := .tuple #[.agg #[.int .i64 289269, .int .i64 289271], .int .i64 0]) (.tuple #[.agg #[.int .i64 289269, .int .i64 289271], .int .i64 0]) (by kernel_rfl) (by kernel_rfl) (rfl) ?_
  refine aw_val (v := .agg #[.int .i64 289269, .int .i64 289271]) (.agg #[.int .i64 289269, .int .i64 289271]) (by kernel_rfl) (by kernel_rfl) (rfl) ?_
  refine aw_val (v := .int .i64 0) (.int .i64 0) (by kernel_rfl) (by kernel_rfl) (rfl) ?_
  refine aw_new 55 [.int .i64 0, .int .i64 0] HL20 (by kernel_rfl) (by kernel_rfl) ?_
  intro g21 w22 HL23
  clear HL20
  refine aw_store 55 (.tmp 4) (.tmp 20) 0 g21 0 55 [.int .i64 0, .int .i64 0] [.int .i64 289269, .int .i64 289271] [.int .i64 289269, .int .i64 289271] [(g21, 55, [.int .i64 289269, .int .i64 289271]), (g8, 55, [.int .i64 15332, .int .i64 15333]), (g5, 55, [.int .i64 71875, .int .i64 71875])] HL23 (by kernel_rfl) rfl (by kernel_rfl) (by kernel_rfl) rfl (by kernel_rfl) (by kernel_rfl) (Nat.le_of_ble_eq_true rfl) rfl rfl ?_
  intro w24 HL25
  clear HL23
  refine aw_val (v := .int .i64 0) (.int .i64 0) (by kernel_rfl) (by kernel_rfl) (rfl) ?_
  refine aw_nil ?_
  refine aw_n_then ?_
  refine aw_seq ?_
  refine aw_reg ?_
  refine aw_call 86 #[] (.agg #[.int .i64 1, .int .i64 50000, .int .i64 50000, .int .i64 40000, .int .i64 10000]) HL25 (by kernel_rfl) (by kernel_rfl) (example_any w24) ?_
  intro w26 HL27
  clear HL25
  refine aw_call 38 #[.int .i64 289270] (.agg #[.int .i64 289270, .int .i64 289270]) HL27 (by kernel_rfl) (by kernel_rfl) (number8_any 289270 w26) ?_
  intro w28 HL29
  clear HL27
  refine aw_call 34 #[.agg #[.int .i64 1, .int .i64 50000, .int .i64 50000, .int .i64 40000, .int .i64 10000], .agg #[.int .i64 289270, .int .i64 289270], .int .i64 0] (.tuple #[.agg #[.int .i64 439999, .int .i64 440001], .int .i64 0]) HL29 (by kernel_rfl) (by kernel_rfl) ((by have h0 := Pitch_any 1 50000 50000 40000 10000 289270 289270 0 w28 (hkd.loc HL29) (ex_i64 289270 (by decide)); rw [spd_zero, ex_pit] at h0; exact h0)) ?_
  intro w30 HL31
  clear HL29
  refine aw_val (v := .tuple #[.agg #[.int .i64 439999, .int .i64 440001], .int .i64 0]) (.tuple #[.agg #[.int .i64 439999, .int .i64 440001], .int .i64 0]) (by kernel_rfl) (by kernel_rfl) (rfl) ?_
  refine aw_val (v := .agg #[.int .i64 439999, .int .i64 440001]) (.agg #[.int .i64 439999, .int .i64 440001]) (by kernel_rfl) (by kernel_rfl) (rfl) ?_
  refine aw_val (v := .int .i64 0) (.int .i64 0) (by kernel_rfl) (by kernel_rfl) (rfl) ?_
  refine aw_new 55 [.int .i64 0, .int .i64 0] HL31 (by kernel_rfl) (by kernel_rfl) ?_
  intro g32 w33 HL34
  clear HL31
  refine aw_store 55 (.tmp 6) (.tmp 26) 0 g32 0 55 [.int .i64 0, .int .i64 0] [.int .i64 439999, .int .i64 440001] [.int .i64 439999, .int .i64 440001] [(g32, 55, [.int .i64 439999, .int .i64 440001]), (g21, 55, [.int .i64 289269, .int .i64 289271]), (g8, 55, [.int .i64 15332, .int .i64 15333]), (g5, 55, [.int .i64 71875, .int .i64 71875])] HL34 (by kernel_rfl) rfl (by kernel_rfl) (by kernel_rfl) rfl (by kernel_rfl) (by kernel_rfl) (Nat.le_of_ble_eq_true rfl) rfl rfl ?_
  intro w35 HL36
  clear HL34
  refine aw_val (v := .int .i64 0) (.int .i64 0) (by kernel_rfl) (by kernel_rfl) (rfl) ?_
  refine aw_nil ?_
  refine aw_n_then ?_
  refine aw_seq ?_
  refine aw_reg ?_
  refine aw_call 86 #[] (.agg #[.int .i64 1, .int .i64 50000, .int .i64 50000, .int .i64 40000, .int .i64 10000]) HL36 (by kernel_rfl) (by kernel_rfl) (example_any w35) ?_
  intro w37 HL38
  clear HL36
  refine aw_call 38 #[.int .i64 20000000] (.agg #[.int .i64 20000000, .int .i64 20000000]) HL38 (by kernel_rfl) (by kernel_rfl) (number8_any 20000000 w37) ?_
  intro w39 HL40
  clear HL38
  refine aw_call 33 #[.agg #[.int .i64 1, .int .i64 50000, .int .i64 50000, .int .i64 40000, .int .i64 10000], .agg #[.int .i64 20000000, .int .i64 20000000], .int .i64 0] (.tuple #[.agg #[.int .i64 0, .int .i64 0], .int .i64 7]) HL40 (by kernel_rfl) (by kernel_rfl) ((by have h0 := Length_any 1 50000 50000 40000 10000 20000000 20000000 0 w39 (hkd.loc HL40) (ex_i64 20000000 (by decide)); rw [spd_zero, ex_len2] at h0; exact h0)) ?_
  intro w41 HL42
  clear HL40
  refine aw_val (v := .tuple #[.agg #[.int .i64 0, .int .i64 0], .int .i64 7]) (.tuple #[.agg #[.int .i64 0, .int .i64 0], .int .i64 7]) (by kernel_rfl) (by kernel_rfl) (rfl) ?_
  refine aw_val (v := .agg #[.int .i64 0, .int .i64 0]) (.agg #[.int .i64 0, .int .i64 0]) (by kernel_rfl) (by kernel_rfl) (rfl) ?_
  refine aw_val (v := .int .i64 7) (.int .i64 7) (by kernel_rfl) (by kernel_rfl) (rfl) ?_
  refine aw_new 55 [.int .i64 0, .int .i64 0] HL42 (by kernel_rfl) (by kernel_rfl) ?_
  intro g43 w44 HL45
  clear HL42
  refine aw_store 55 (.tmp 8) (.tmp 32) 0 g43 0 55 [.int .i64 0, .int .i64 0] [.int .i64 0, .int .i64 0] [.int .i64 0, .int .i64 0] [(g43, 55, [.int .i64 0, .int .i64 0]), (g32, 55, [.int .i64 439999, .int .i64 440001]), (g21, 55, [.int .i64 289269, .int .i64 289271]), (g8, 55, [.int .i64 15332, .int .i64 15333]), (g5, 55, [.int .i64 71875, .int .i64 71875])] HL45 (by kernel_rfl) rfl (by kernel_rfl) (by kernel_rfl) rfl (by kernel_rfl) (by kernel_rfl) (Nat.le_of_ble_eq_true rfl) rfl rfl ?_
  intro w46 HL47
  clear HL45
  refine aw_val (v := .int .i64 7) (.int .i64 7) (by kernel_rfl) (by kernel_rfl) (rfl) ?_
  refine aw_nil ?_
  refine aw_n_then ?_
  refine aw_seq ?_
  refine ad_start [(g43, 55, [.int .i64 0, .int .i64 0]), (g32, 55, [.int .i64 439999, .int .i64 440001]), (g21, 55, [.int .i64 289269, .int .i64 289271]), (g8, 55, [.int .i64 15332, .int .i64 15333]), (g5, 55, [.int .i64 71875, .int .i64 71875])] HL47 (by kernel_rfl) (List.Sublist.cons_cons _ (List.Sublist.cons_cons _ (List.Sublist.cons_cons _ (List.Sublist.cons_cons _ (List.Sublist.cons_cons _ List.Sublist.slnil))))) rfl ?_
  intro w49 HL48
  clear HL47
  refine ad_val (v := .int .i64 0) 0 (.int .i64 0) rfl (by kernel_rfl) (by kernel_rfl) (by kernel_rfl) (fun _ _ _ h => h) (by kernel_rfl) (fun _ _ => by kernel_rfl) (rfl) ?_
  refine ad_val (v := .bool true) 1 (.bool true) rfl (by kernel_rfl) (by kernel_rfl) (by kernel_rfl) (fun _ _ _ h => h) (by kernel_rfl) (fun _ _ => by kernel_rfl) (rfl) ?_
  refine ad_val (v := .bool true) 2 (.bool true) rfl (by kernel_rfl) (by kernel_rfl) (by kernel_rfl) (fun _ _ _ h => h) (by kernel_rfl) (fun _ _ => by kernel_rfl) (rfl) ?_
  refine ad_val (v := .int .i64 0) 3 (.int .i64 0) rfl (by kernel_rfl) (by kernel_rfl) (by kernel_rfl) (fun _ _ _ h => h) (by kernel_rfl) (fun _ _ => by kernel_rfl) (rfl) ?_
  refine ad_val (v := .bool true) 4 (.bool true) rfl (by kernel_rfl) (by kernel_rfl) (by kernel_rfl) (fun _ _ _ h => h) (by kernel_rfl) (fun _ _ => by kernel_rfl) (rfl) ?_
  refine ad_val (v := .bool true) 5 (.bool true) rfl (by kernel_rfl) (by kernel_rfl) (by kernel_rfl) (fun _ _ _ h => h) (by kernel_rfl) (fun _ _ => by kernel_rfl) (rfl) ?_
  refine ad_val (v := .bool true) 6 (.bool true) rfl (by kernel_rfl) (by kernel_rfl) (by kernel_rfl) (fun _ _ _ h => h) (by kernel_rfl) (fun _ _ => by kernel_rfl) (rfl) ?_
  refine ad_val (v := .int .i64 0) 7 (.int .i64 0) rfl (by kernel_rfl) (by kernel_rfl) (by kernel_rfl) (fun _ _ _ h => h) (by kernel_rfl) (fun _ _ => by kernel_rfl) (rfl) ?_
  refine ad_val (v := .bool true) 8 (.bool true) rfl (by kernel_rfl) (by kernel_rfl) (by kernel_rfl) (fun _ _ _ h => h) (by kernel_rfl) (fun _ _ => by kernel_rfl) (rfl) ?_
  refine ad_val (v := .bool true) 9 (.bool true) rfl (by kernel_rfl) (by kernel_rfl) (by kernel_rfl) (fun _ _ _ h => h) (by kernel_rfl) (fun _ _ => by kernel_rfl) (rfl) ?_
  refine ad_val (v := .bool true) 10 (.bool true) rfl (by kernel_rfl) (by kernel_rfl) (by kernel_rfl) (fun _ _ _ h => h) (by kernel_rfl) (fun _ _ => by kernel_rfl) (rfl) ?_
  refine ad_val (v := .int .i64 7) 11 (.int .i64 7) rfl (by kernel_rfl) (by kernel_rfl) (by kernel_rfl) (fun _ _ _ h => h) (by kernel_rfl) (fun _ _ => by kernel_rfl) (rfl) ?_
  refine ad_val (v := .bool true) 12 (.bool true) rfl (by kernel_rfl) (by kernel_rfl) (by kernel_rfl) (fun _ _ _ h => h) (by kernel_rfl) (fun _ _ => by kernel_rfl) (rfl) ?_
  refine ad_val (v := .bool true) 13 (.bool true) rfl (by kernel_rfl) (by kernel_rfl) (by kernel_rfl) (fun _ _ _ h => h) (by kernel_rfl) (fun _ _ => by kernel_rfl) (rfl) ?_
  refine ad_val (v := .bool true) 14 (.bool true) rfl (by kernel_rfl) (by kernel_rfl) (by kernel_rfl) (fun _ _ _ h => h) (by kernel_rfl) (fun _ _ => by kernel_rfl) (rfl) ?_
  refine ad_mid 15 55 (.tmp 1) 4 g5 0 55 [.int .i64 71875, .int .i64 71875] [.int .i64 71875, .int .i64 71875] _ rfl (by kernel_rfl) (by kernel_rfl) (by kernel_rfl) (fun _ _ _ h => h) (by kernel_rfl) rfl (by kernel_rfl) rfl rfl Tryd.underlying55 rfl (by kernel_rfl) ?_
  refine ad_call 16 38 #[.int .i64 71875] (.agg #[.int .i64 71875, .int .i64 71875]) rfl (by kernel_rfl) (by kernel_rfl) (by kernel_rfl) (fun _ _ _ h => h) (by kernel_rfl) (fun _ => by kernel_rfl) (fun u hu => number8_any 71875 u) ?_
  refine ad_val (v := .bool true) 17 (.bool true) rfl (by kernel_rfl) (by kernel_rfl) (by kernel_rfl) (fun _ _ _ h => h) (by kernel_rfl) (fun _ _ => by kernel_rfl) (rfl) ?_
  refine ad_val (v := .bool true) 18 (.bool true) rfl (by kernel_rfl) (by kernel_rfl) (by kernel_rfl) (fun _ _ _ h => h) (by kernel_rfl) (fun _ _ => by kernel_rfl) (rfl) ?_
  refine ad_val (v := .bool true) 19 (.bool true) rfl (by kernel_rfl) (by kernel_rfl) (by kernel_rfl) (fun _ _ _ h => h) (by kernel_rfl) (fun _ _ => by kernel_rfl) (rfl) ?_
  refine ad_mid 20 55 (.tmp 2) 3 g8 0 55 [.int .i64 15332, .int .i64 15333] [.int .i64 15332, .int .i64 15333] _ rfl (by kernel_rfl) (by kernel_rfl) (by kernel_rfl) (fun _ _ _ h => h) (by kernel_rfl) rfl (by kernel_rfl) rfl rfl Tryd.underlying55 rfl (by kernel_rfl) ?_
  refine ad_val (v := .agg #[.int .i64 15332, .int .i64 15333]) 21 (.agg #[.int .i64 15332, .int .i64 15333]) rfl (by kernel_rfl) (by kernel_rfl) (by kernel_rfl) (fun _ _ _ h => h) (by kernel_rfl) (fun _ _ => by kernel_rfl) (rfl) ?_
  refine ad_val (v := .bool true) 22 (.bool true) rfl (by kernel_rfl) (by kernel_rfl) (by kernel_rfl) (fun _ _ _ h => h) (by kernel_rfl) (fun _ _ => by kernel_rfl) (rfl) ?_
  refine ad_val (v := .bool true) 23 (.bool true) rfl (by kernel_rfl) (by kernel_rfl) (by kernel_rfl) (fun _ _ _ h => h) (by kernel_rfl) (fun _ _ => by kernel_rfl) (rfl) ?_
  refine ad_val (v := .bool true) 24 (.bool true) rfl (by kernel_rfl) (by kernel_rfl) (by kernel_rfl) (fun _ _ _ h => h) (by kernel_rfl) (fun _ _ => by kernel_rfl) (rfl) ?_
  refine ad_mid 25 55 (.tmp 4) 2 g21 0 55 [.int .i64 289269, .int .i64 289271] [.int .i64 289269, .int .i64 289271] _ rfl (by kernel_rfl) (by kernel_rfl) (by kernel_rfl) (fun _ _ _ h => h) (by kernel_rfl) rfl (by kernel_rfl) rfl rfl Tryd.underlying55 rfl (by kernel_rfl) ?_
  refine ad_val (v := .agg #[.int .i64 289269, .int .i64 289271]) 26 (.agg #[.int .i64 289269, .int .i64 289271]) rfl (by kernel_rfl) (by kernel_rfl) (by kernel_rfl) (fun _ _ _ h => h) (by kernel_rfl) (fun _ _ => by kernel_rfl) (rfl) ?_
  refine ad_val (v := .bool true) 27 (.bool true) rfl (by kernel_rfl) (by kernel_rfl) (by kernel_rfl) (fun _ _ _ h => h) (by kernel_rfl) (fun _ _ => by kernel_rfl) (rfl) ?_
  refine ad_val (v := .bool true) 28 (.bool true) rfl (by kernel_rfl) (by kernel_rfl) (by kernel_rfl) (fun _ _ _ h => h) (by kernel_rfl) (fun _ _ => by kernel_rfl) (rfl) ?_
  refine ad_val (v := .bool true) 29 (.bool true) rfl (by kernel_rfl) (by kernel_rfl) (by kernel_rfl) (fun _ _ _ h => h) (by kernel_rfl) (fun _ _ => by kernel_rfl) (rfl) ?_
  refine ad_val (v := .pointer (some ⟨g32, 0, none⟩)) 30 (.pointer (some ⟨g32, 0, none⟩)) rfl (by kernel_rfl) (by kernel_rfl) (by kernel_rfl) (fun _ _ _ h => h) (by kernel_rfl) (fun _ _ => by kernel_rfl) (rfl) ?_
  refine ad_load 31 2 (.tmp 64) 1 g32 0 55 [.int .i64 439999, .int .i64 440001] (.int .i64 439999) _ rfl (by kernel_rfl) (by kernel_rfl) (by kernel_rfl) (fun _ _ _ h => h) (by kernel_rfl) rfl (by kernel_rfl) rfl rfl Tryd.underlying2 rfl ?_
  refine ad_val (v := .bool true) 32 (.bool true) rfl (by kernel_rfl) (by kernel_rfl) (by kernel_rfl) (fun _ _ _ h => h) (by kernel_rfl) (fun _ _ => by kernel_rfl) (rfl) ?_
  refine ad_val (v := .bool true) 33 (.bool true) rfl (by kernel_rfl) (by kernel_rfl) (by kernel_rfl) (fun _ _ _ h => h) (by kernel_rfl) (fun _ _ => by kernel_rfl) (rfl) ?_
  refine ad_val (v := .bool true) 34 (.bool true) rfl (by kernel_rfl) (by kernel_rfl) (by kernel_rfl) (fun _ _ _ h => h) (by kernel_rfl) (fun _ _ => by kernel_rfl) (rfl) ?_
  refine ad_val (v := .pointer (some ⟨g32, 1, none⟩)) 35 (.pointer (some ⟨g32, 1, none⟩)) rfl (by kernel_rfl) (by kernel_rfl) (by kernel_rfl) (fun _ _ _ h => h) (by kernel_rfl) (fun _ _ => by kernel_rfl) (rfl) ?_
  refine ad_load 36 2 (.tmp 69) 1 g32 1 55 [.int .i64 439999, .int .i64 440001] (.int .i64 440001) _ rfl (by kernel_rfl) (by kernel_rfl) (by kernel_rfl) (fun _ _ _ h => h) (by kernel_rfl) rfl (by kernel_rfl) rfl rfl Tryd.underlying2 rfl ?_
  refine ad_val (v := .bool true) 37 (.bool true) rfl (by kernel_rfl) (by kernel_rfl) (by kernel_rfl) (fun _ _ _ h => h) (by kernel_rfl) (fun _ _ => by kernel_rfl) (rfl) ?_
  refine ad_val (v := .bool true) 38 (.bool true) rfl (by kernel_rfl) (by kernel_rfl) (by kernel_rfl) (fun _ _ _ h => h) (by kernel_rfl) (fun _ _ => by kernel_rfl) (rfl) ?_
  refine ad_val (v := .bool true) 39 (.bool true) rfl (by kernel_rfl) (by kernel_rfl) (by kernel_rfl) (fun _ _ _ h => h) (by kernel_rfl) (fun _ _ => by kernel_rfl) (rfl) ?_
  refine ad_done HL48 (by kernel_rfl) (fun w53 HL52 => ?_)
  clear HL48
  refine aw_n_then ?_
  refine aw_ret ?_
  refine aw_end (.bool true) rfl (by kernel_rfl) ?_
  exact ⟨rfl, HL52.bel⟩

theorem ok_lenV {sp : (Int × Int) × Int} {k B T M C : Int} {f : Int × Int} (hs : SpOk sp) : okC (lenV sp k B T M C f) := by
  by_cases h : (lenV sp k B T M C f).2 = 2
  · unfold lenV at h ⊢
    split
    · unfold lenE; exact ok_lim (ok_with ok_sub _ _) _ _ _
    · exact okC_zero _
  · obtain ⟨hb, -⟩ := len_case hs h
    unfold lenV; rw [if_pos hb]; unfold lenE; exact ok_lim (ok_with ok_sub _ _) _ _ _
theorem ok_pitV {sp : (Int × Int) × Int} {k B T M C : Int} {f : Int × Int} : okC (pitV sp k B T M C f) := by
  unfold pitV
  split
  · unfold pitE; exact ok_lim (ok_with ok_div _ _) _ _ _
  · exact okC_zero _
/-- All that the law asks. -/
theorem back_all (k B T M C x y t : Int) : ∃ la pa pb lb, lenV (spdE t) k B T M C (x, y) = la ∧ pitV (spdE t) k B T M C (la.1.1, la.1.2) = pa ∧ pitV (spdE t) k B T M C (x, y) = pb ∧ lenV (spdE t) k B T M C (pb.1.1, pb.1.2) = lb ∧ okC la ∧ okC pb ∧
    (¬ la.2 = 0 ∨ (pa.2 ≠ 2 ∧ (¬ pa.2 = 0 ∨ (pa.1.1 ≤ x ∧ y ≤ pa.1.2)))) ∧ (¬ pb.2 = 0 ∨ ¬ 1000 ≤ pb.1.1 ∨ ¬ pb.1.2 ≤ 20000000 ∨ (lb.2 ≠ 2 ∧ (¬ lb.2 = 0 ∨ (lb.1.1 ≤ x ∧ y ≤ lb.1.2)))) := by
  refine ⟨_, _, _, _, rfl, rfl, rfl, rfl, ok_lenV (spd_ok t), ok_pitV, ?_, ?_⟩
  · by_cases h : (lenV (spdE t) k B T M C (x, y)).2 = 0
    · obtain ⟨a, b⟩ := back_len (spd_ok t) h
      refine .inr ⟨a, ?_⟩
      by_cases g : (pitV (spdE t) k B T M C (lenV (spdE t) k B T M C (x, y)).1).2 = 0
      · exact .inr (b g)
      · exact .inl g
    · exact .inl h
  · by_cases h : (pitV (spdE t) k B T M C (x, y)).2 = 0
    · by_cases h3 : 1000 ≤ (pitV (spdE t) k B T M C (x, y)).1.1
      · by_cases h4 : (pitV (spdE t) k B T M C (x, y)).1.2 ≤ 20000000
        · obtain ⟨a, b⟩ := back_pit (spd_ok t) h h3 h4
          refine .inr (.inr (.inr ⟨a, ?_⟩))
          by_cases g : (lenV (spdE t) k B T M C (pitV (spdE t) k B T M C (x, y)).1).2 = 0
          · exact .inr (b g)
          · exact .inl g
        · exact .inr (.inr (.inl h4))
      · exact .inr (.inl h3)
    · exact .inl h
set_option maxRecDepth 100000 in
set_option maxHeartbeats 2000000 in
theorem lawBack_any (k B T M C x y t : Int) (w : World) (hkd : KdL w) (hI : I64 x ∧ I64 y) : Calls Tryd.prog 7 #[.agg #[.int .i64 k, .int .i64 B, .int .i64 T, .int .i64 M, .int .i64 C], .agg #[.int .i64 x, .int .i64 y], .int .i64 t] w fun r w' => r = .returned (.bool true) ∧ Below w.heap.size w w' := by
  obtain ⟨la, pa, pb, lb, hla, hpa, hpb, hlb, hoa, hob, H1, H2⟩ := back_all k B T M C x y t
  refine calls_of_wp Tryd.func7 rfl ?_
  refine Boxw.out ?_
  have HL0 := Loc.start w
  refine aw_seq ?_
  refine aw_reg ?_
  refine aw_new 64 [.int .i64 k, .int .i64 B, .int .i64 T, .int .i64 M, .int .i64 C] HL0 (by kernel_rfl) (by kernel_rfl) ?_
  intro g1 w2 HL3
  clear HL0
  refine aw_new 55 [.int .i64 x, .int .i64 y] HL3 (by kernel_rfl) (by kernel_rfl) ?_
  intro g4 w5 HL6
  clear HL3
  refine aw_val (v := .bool false) (.bool false) (by kernel_rfl) (by kernel_rfl) (rfl) ?_
  refine aw_nil ?_
  refine aw_n_then ?_
  refine aw_seq ?_
  refine aw_reg ?_
  refine aw_mid 64 (.tmp 3) 1 g1 0 64 [.int .i64 k, .int .i64 B, .int .i64 T, .int .i64 M, .int .i64 C] [.int .i64 k, .int .i64 B, .int .i64 T, .int .i64 M, .int .i64 C] _ HL6 (by kernel_rfl) rfl (by kernel_rfl) rfl rfl Tryd.underlying64 rfl (by kernel_rfl) ?_
  refine aw_mid 55 (.tmp 4) 0 g4 0 55 [.int .i64 x, .int .i64 y] [.int .i64 x, .int .i64 y] _ HL6 (by kernel_rfl) rfl (by kernel_rfl) rfl rfl Tryd.underlying55 rfl (by kernel_rfl) ?_
  refine aw_val (v := .int .i64 t) (.int .i64 t) (by kernel_rfl) (by kernel_rfl) (rfl) ?_
  refine aw_call 33 #[.agg #[.int .i64 k, .int .i64 B, .int .i64 T, .int .i64 M, .int .i64 C], .agg #[.int .i64 x, .int .i64 y], .int .i64 t] (.tuple #[.agg #[.int .i64 la.1.1, .int .i64 la.1.2], .int .i64 la.2]) HL6 (by kernel_rfl) (by kernel_rfl) ((by have h0 := Length_any k B T M C x y t w5 (hkd.loc HL6) hI; rw [hla] at h0; exact h0)) ?_
  intro w7 HL8
  clear HL6
  refine aw_val (v := .tuple #[.agg #[.int .i64 la.1.1, .int .i64 la.1.2], .int .i64 la.2]) (.tuple #[.agg #[.int .i64 la.1.1, .int .i64 la.1.2], .int .i64 la.2]) (by kernel_rfl) (by kernel_rfl) (rfl) ?_
  refine aw_val (v := .agg #[.int .i64 la.1.1, .int .i64 la.1.2]) (.agg #[.int .i64 la.1.1, .int .i64 la.1.2]) (by kernel_rfl) (by kernel_rfl) (rfl) ?_
  refine aw_val (v := .int .i64 la.2) (.int .i64 la.2) (by kernel_rfl) (by kernel_rfl) (rfl) ?_
  refine aw_new 55 [.int .i64 0, .int .i64 0] HL8 (by kernel_rfl) (by kernel_rfl) ?_
  intro g9 w10 HL11
  clear HL8
  refine aw_store 55 (.tmp 7) (.tmp 19) 0 g9 0 55 [.int .i64 0, .int .i64 0] [.int .i64 la.1.1, .int .i64 la.1.2] [.int .i64 la.1.1, .int .i64 la.1.2] [(g9, 55, [.int .i64 la.1.1, .int .i64 la.1.2]), (g4, 55, [.int .i64 x, .int .i64 y]), (g1, 64, [.int .i64 k, .int .i64 B, .int .i64 T, .int .i64 M, .int .i64 C])] HL11 (by kernel_rfl) rfl (by kernel_rfl) (by kernel_rfl) rfl (by kernel_rfl) (by kernel_rfl) (Nat.le_of_ble_eq_true rfl) rfl rfl ?_
  intro w12 HL13
  clear HL11
  refine aw_val (v := .int .i64 la.2) (.int .i64 la.2) (by kernel_rfl) (by kernel_rfl) (rfl) ?_
  refine aw_nil ?_
  refine aw_n_then ?_
  refine aw_seq ?_
  refine aw_seq ?_
  refine aw_reg ?_
  refine aw_val (v := .int .i64 la.2) (.int .i64 la.2) (by kernel_rfl) (by kernel_rfl) (rfl) ?_
  refine aw_fork (la.2 == 0) (by kernel_rfl) (by kernel_rfl) ?_ ?_
  · intro f14
    have k14 := eq_of_beq f14
    refine aw_nil ?_
    refine aw_n_then ?_
    refine aw_yes (by kernel_rfl) ?_
    refine aw_seq ?_
    refine aw_reg ?_
    refine aw_mid 64 (.tmp 3) 2 g1 0 64 [.int .i64 k, .int .i64 B, .int .i64 T, .int .i64 M, .int .i64 C] [.int .i64 k, .int .i64 B, .int .i64 T, .int .i64 M, .int .i64 C] _ HL13 (by kernel_rfl) rfl (by kernel_rfl) rfl rfl Tryd.underlying64 rfl (by kernel_rfl) ?_
    refine aw_mid 55 (.tmp 7) 0 g9 0 55 [.int .i64 la.1.1, .int .i64 la.1.2] [.int .i64 la.1.1, .int .i64 la.1.2] _ HL13 (by kernel_rfl) rfl (by kernel_rfl) rfl rfl Tryd.underlying55 rfl (by kernel_rfl) ?_
    refine aw_val (v := .int .i64 t) (.int .i64 t) (by kernel_rfl) (by kernel_rfl) (rfl) ?_
    refine aw_call 34 #[.agg #[.int .i64 k, .int .i64 B, .int .i64 T, .int .i64 M, .int .i64 C], .agg #[.int .i64 la.1.1, .int .i64 la.1.2], .int .i64 t] (.tuple #[.agg #[.int .i64 pa.1.1, .int .i64 pa.1.2], .int .i64 pa.2]) HL13 (by kernel_rfl) (by kernel_rfl) ((by have h0 := Pitch_any k B T M C la.1.1 la.1.2 t w12 (hkd.loc HL13) hoa; rw [hpa] at h0; exact h0)) ?_
    intro w16 HL17
    clear HL13
    refine aw_val (v := .tuple #[.agg #[.int .i64 pa.1.1, .int .i64 pa.1.2], .int .i64 pa.2]) (.tuple #[.agg #[.int .i64 pa.1.1, .int .i64 pa.1.2], .int .i64 pa.2]) (by kernel_rfl) (by kernel_rfl) (rfl) ?_
    refine aw_val (v := .agg #[.int .i64 pa.1.1, .int .i64 pa.1.2]) (.agg #[.int .i64 pa.1.1, .int .i64 pa.1.2]) (by kernel_rfl) (by kernel_rfl) (rfl) ?_
    refine aw_val (v := .int .i64 pa.2) (.int .i64 pa.2) (by kernel_rfl) (by kernel_rfl) (rfl) ?_
    refine aw_new 55 [.int .i64 0, .int .i64 0] HL17 (by kernel_rfl) (by kernel_rfl) ?_
    intro g18 w19 HL20
    clear HL17
    refine aw_store 55 (.tmp 9) (.tmp 28) 0 g18 0 55 [.int .i64 0, .int .i64 0] [.int .i64 pa.1.1, .int .i64 pa.1.2] [.int .i64 pa.1.1, .int .i64 pa.1.2] [(g18, 55, [.int .i64 pa.1.1, .int .i64 pa.1.2]), (g9, 55, [.int .i64 la.1.1, .int .i64 la.1.2]), (g4, 55, [.int .i64 x, .int .i64 y]), (g1, 64, [.int .i64 k, .int .i64 B, .int .i64 T, .int .i64 M, .int .i64 C])] HL20 (by kernel_rfl) rfl (by kernel_rfl) (by kernel_rfl) rfl (by kernel_rfl) (by kernel_rfl) (Nat.le_of_ble_eq_true rfl) rfl rfl ?_
    intro w21 HL22
    clear HL20
    refine aw_val (v := .int .i64 pa.2) (.int .i64 pa.2) (by kernel_rfl) (by kernel_rfl) (rfl) ?_
    refine aw_nil ?_
    refine aw_n_then ?_
    refine aw_seq ?_
    refine aw_reg ?_
    refine aw_val (v := .int .i64 pa.2) (.int .i64 pa.2) (by kernel_rfl) (by kernel_rfl) (rfl) ?_
    refine aw_fork (pa.2 == 0) (by kernel_rfl) (by kernel_rfl) ?_ ?_
    · intro f23
      have k23 := eq_of_beq f23
      refine aw_val (v := .bool true) (.bool true) (by kernel_rfl) (by kernel_rfl) (rfl) ?_
      refine aw_mid 55 (.tmp 4) 2 g4 0 55 [.int .i64 x, .int .i64 y] [.int .i64 x, .int .i64 y] _ HL22 (by kernel_rfl) rfl (by kernel_rfl) rfl rfl Tryd.underlying55 rfl (by kernel_rfl) ?_
      refine aw_mid 55 (.tmp 9) 0 g18 0 55 [.int .i64 pa.1.1, .int .i64 pa.1.2] [.int .i64 pa.1.1, .int .i64 pa.1.2] _ HL22 (by kernel_rfl) rfl (by kernel_rfl) rfl rfl Tryd.underlying55 rfl (by kernel_rfl) ?_
      refine aw_callb 35 #[.agg #[.int .i64 x, .int .i64 y], .agg #[.int .i64 pa.1.1, .int .i64 pa.1.2]] (winB x y pa.1.1 pa.1.2) HL22 (by kernel_rfl) (by kernel_rfl) (within8_any x y pa.1.1 pa.1.2 w21) ?_ ?_
      · intro f27 w25 HL26
        clear HL22
        have k27 := winB_iff.1 f27
        refine aw_val (v := .bool false) (.bool false) (by kernel_rfl) (by kernel_rfl) (rfl) ?_
        refine aw_val (v := .bool false) (.bool false) (by kernel_rfl) (by kernel_rfl) (rfl) ?_
        refine aw_val (v := .bool false) (.bool false) (by kernel_rfl) (by kernel_rfl) (rfl) ?_
        refine aw_val (v := .int .i64 pa.2) (.int .i64 pa.2) (by kernel_rfl) (by kernel_rfl) (rfl) ?_
        refine aw_fork (pa.2 == 2) (by kernel_rfl) (by kernel_rfl) ?_ ?_
        · intro f29
          have k29 := eq_of_beq f29
          refine aw_val (v := .bool true) (.bool true) (by kernel_rfl) (by kernel_rfl) (rfl) ?_
          refine aw_nil ?_
          refine aw_n_then ?_
          refine aw_yes (by kernel_rfl) ?_
          refine aw_seq ?_
          refine aw_reg ?_
          refine aw_val (v := .bool false) (.bool false) (by kernel_rfl) (by kernel_rfl) (rfl) ?_
          refine aw_nil ?_
          refine aw_n_then ?_
          refine aw_ret ?_
          refine aw_r_then ?_
          refine aw_end (.bool false) rfl (by kernel_rfl) ?_
          exfalso
          omega
        · intro f30
          have k30 := ne_of_beq_false f30
          refine aw_val (v := .bool false) (.bool false) (by kernel_rfl) (by kernel_rfl) (rfl) ?_
          refine aw_nil ?_
          refine aw_n_then ?_
          refine aw_no (by kernel_rfl) ?_
          refine aw_skip0 ?_
          refine aw_n_then ?_
          refine aw_seq ?_
          refine aw_reg ?_
          refine aw_mid 64 (.tmp 3) 3 g1 0 64 [.int .i64 k, .int .i64 B, .int .i64 T, .int .i64 M, .int .i64 C] [.int .i64 k, .int .i64 B, .int .i64 T, .int .i64 M, .int .i64 C] _ HL26 (by kernel_rfl) rfl (by kernel_rfl) rfl rfl Tryd.underlying64 rfl (by kernel_rfl) ?_
          refine aw_mid 55 (.tmp 4) 2 g4 0 55 [.int .i64 x, .int .i64 y] [.int .i64 x, .int .i64 y] _ HL26 (by kernel_rfl) rfl (by kernel_rfl) rfl rfl Tryd.underlying55 rfl (by kernel_rfl) ?_
          refine aw_val (v := .int .i64 t) (.int .i64 t) (by kernel_rfl) (by kernel_rfl) (rfl) ?_
          refine aw_call 34 #[.agg #[.int .i64 k, .int .i64 B, .int .i64 T, .int .i64 M, .int .i64 C], .agg #[.int .i64 x, .int .i64 y], .int .i64 t] (.tuple #[.agg #[.int .i64 pb.1.1, .int .i64 pb.1.2], .int .i64 pb.2]) HL26 (by kernel_rfl) (by kernel_rfl) ((by have h0 := Pitch_any k B T M C x y t w25 (hkd.loc HL26) hI; rw [hpb] at h0; exact h0)) ?_
          intro w31 HL32
          clear HL26
          refine aw_val (v := .tuple #[.agg #[.int .i64 pb.1.1, .int .i64 pb.1.2], .int .i64 pb.2]) (.tuple #[.agg #[.int .i64 pb.1.1, .int .i64 pb.1.2], .int .i64 pb.2]) (by kernel_rfl) (by kernel_rfl) (rfl) ?_
          refine aw_val (v := .agg #[.int .i64 pb.1.1, .int .i64 pb.1.2]) (.agg #[.int .i64 pb.1.1, .int .i64 pb.1.2]) (by kernel_rfl) (by kernel_rfl) (rfl) ?_
          refine aw_val (v := .int .i64 pb.2) (.int .i64 pb.2) (by kernel_rfl) (by kernel_rfl) (rfl) ?_
          refine aw_new 55 [.int .i64 0, .int .i64 0] HL32 (by kernel_rfl) (by kernel_rfl) ?_
          intro g33 w34 HL35
          clear HL32
          refine aw_store 55 (.tmp 11) (.tmp 47) 0 g33 0 55 [.int .i64 0, .int .i64 0] [.int .i64 pb.1.1, .int .i64 pb.1.2] [.int .i64 pb.1.1, .int .i64 pb.1.2] [(g33, 55, [.int .i64 pb.1.1, .int .i64 pb.1.2]), (g18, 55, [.int .i64 pa.1.1, .int .i64 pa.1.2]), (g9, 55, [.int .i64 la.1.1, .int .i64 la.1.2]), (g4, 55, [.int .i64 x, .int .i64 y]), (g1, 64, [.int .i64 k, .int .i64 B, .int .i64 T, .int .i64 M, .int .i64 C])] HL35 (by kernel_rfl) rfl (by kernel_rfl) (by kernel_rfl) rfl (by kernel_rfl) (by kernel_rfl) (Nat.le_of_ble_eq_true rfl) rfl rfl ?_
          intro w36 HL37
          clear HL35
          refine aw_val (v := .int .i64 pb.2) (.int .i64 pb.2) (by kernel_rfl) (by kernel_rfl) (rfl) ?_
          refine aw_nil ?_
          refine aw_n_then ?_
          refine aw_seq ?_
          refine aw_seq ?_
          refine aw_reg ?_
          refine aw_val (v := .int .i64 pb.2) (.int .i64 pb.2) (by kernel_rfl) (by kernel_rfl) (rfl) ?_
          refine aw_fork (pb.2 == 0) (by kernel_rfl) (by kernel_rfl) ?_ ?_
          · intro f38
            have k38 := eq_of_beq f38
            refine aw_val (v := .bool true) (.bool true) (by kernel_rfl) (by kernel_rfl) (rfl) ?_
            refine aw_val (v := .pointer (some ⟨g33, 0, none⟩)) (.pointer (some ⟨g33, 0, none⟩)) (by kernel_rfl) (by kernel_rfl) (rfl) ?_
            refine aw_load 2 (.tmp 52) 0 g33 0 55 [.int .i64 pb.1.1, .int .i64 pb.1.2] (.int .i64 pb.1.1) _ HL37 (by kernel_rfl) rfl (by kernel_rfl) rfl rfl Tryd.underlying2 rfl ?_
            refine aw_fork (decide (1000 ≤ pb.1.1)) (by kernel_rfl) (by kernel_rfl) ?_ ?_
            · intro f40
              have k40 := of_decide_eq_true f40
              refine aw_val (v := .bool true) (.bool true) (by kernel_rfl) (by kernel_rfl) (rfl) ?_
              refine aw_val (v := .bool true) (.bool true) (by kernel_rfl) (by kernel_rfl) (rfl) ?_
              refine aw_val (v := .pointer (some ⟨g33, 1, none⟩)) (.pointer (some ⟨g33, 1, none⟩)) (by kernel_rfl) (by kernel_rfl) (rfl) ?_
              refine aw_load 2 (.tmp 57) 0 g33 1 55 [.int .i64 pb.1.1, .int .i64 pb.1.2] (.int .i64 pb.1.2) _ HL37 (by kernel_rfl) rfl (by kernel_rfl) rfl rfl Tryd.underlying2 rfl ?_
              refine aw_fork (decide (pb.1.2 ≤ 20000000)) (by kernel_rfl) (by kernel_rfl) ?_ ?_
              · intro f42
                have k42 := of_decide_eq_true f42
                refine aw_val (v := .bool true) (.bool true) (by kernel_rfl) (by kernel_rfl) (rfl) ?_
                refine aw_nil ?_
                refine aw_n_then ?_
                refine aw_yes (by kernel_rfl) ?_
                refine aw_seq ?_
                refine aw_reg ?_
                refine aw_mid 64 (.tmp 3) 4 g1 0 64 [.int .i64 k, .int .i64 B, .int .i64 T, .int .i64 M, .int .i64 C] [.int .i64 k, .int .i64 B, .int .i64 T, .int .i64 M, .int .i64 C] _ HL37 (by kernel_rfl) rfl (by kernel_rfl) rfl rfl Tryd.underlying64 rfl (by kernel_rfl) ?_
                refine aw_mid 55 (.tmp 11) 0 g33 0 55 [.int .i64 pb.1.1, .int .i64 pb.1.2] [.int .i64 pb.1.1, .int .i64 pb.1.2] _ HL37 (by kernel_rfl) rfl (by kernel_rfl) rfl rfl Tryd.underlying55 rfl (by kernel_rfl) ?_
                refine aw_val (v := .int .i64 t) (.int .i64 t) (by kernel_rfl) (by kernel_rfl) (rfl) ?_
                refine aw_call 33 #[.agg #[.int .i64 k, .int .i64 B, .int .i64 T, .int .i64 M, .int .i64 C], .agg #[.int .i64 pb.1.1, .int .i64 pb.1.2], .int .i64 t] (.tuple #[.agg #[.int .i64 lb.1.1, .int .i64 lb.1.2], .int .i64 lb.2]) HL37 (by kernel_rfl) (by kernel_rfl) ((by have h0 := Length_any k B T M C pb.1.1 pb.1.2 t w36 (hkd.loc HL37) hob; rw [hlb] at h0; exact h0)) ?_
                intro w44 HL45
                clear HL37
                refine aw_val (v := .tuple #[.agg #[.int .i64 lb.1.1, .int .i64 lb.1.2], .int .i64 lb.2]) (.tuple #[.agg #[.int .i64 lb.1.1, .int .i64 lb.1.2], .int .i64 lb.2]) (by kernel_rfl) (by kernel_rfl) (rfl) ?_
                refine aw_val (v := .agg #[.int .i64 lb.1.1, .int .i64 lb.1.2]) (.agg #[.int .i64 lb.1.1, .int .i64 lb.1.2]) (by kernel_rfl) (by kernel_rfl) (rfl) ?_
                refine aw_val (v := .int .i64 lb.2) (.int .i64 lb.2) (by kernel_rfl) (by kernel_rfl) (rfl) ?_
                refine aw_new 55 [.int .i64 0, .int .i64 0] HL45 (by kernel_rfl) (by kernel_rfl) ?_
                intro g46 w47 HL48
                clear HL45
                refine aw_store 55 (.tmp 12) (.tmp 66) 0 g46 0 55 [.int .i64 0, .int .i64 0] [.int .i64 lb.1.1, .int .i64 lb.1.2] [.int .i64 lb.1.1, .int .i64 lb.1.2] [(g46, 55, [.int .i64 lb.1.1, .int .i64 lb.1.2]), (g33, 55, [.int .i64 pb.1.1, .int .i64 pb.1.2]), (g18, 55, [.int .i64 pa.1.1, .int .i64 pa.1.2]), (g9, 55, [.int .i64 la.1.1, .int .i64 la.1.2]), (g4, 55, [.int .i64 x, .int .i64 y]), (g1, 64, [.int .i64 k, .int .i64 B, .int .i64 T, .int .i64 M, .int .i64 C])] HL48 (by kernel_rfl) rfl (by kernel_rfl) (by kernel_rfl) rfl (by kernel_rfl) (by kernel_rfl) (Nat.le_of_ble_eq_true rfl) rfl rfl ?_
                intro w49 HL50
                clear HL48
                refine aw_val (v := .int .i64 lb.2) (.int .i64 lb.2) (by kernel_rfl) (by kernel_rfl) (rfl) ?_
                refine aw_nil ?_
                refine aw_n_then ?_
                refine aw_seq ?_
                refine aw_reg ?_
                refine aw_val (v := .int .i64 lb.2) (.int .i64 lb.2) (by kernel_rfl) (by kernel_rfl) (rfl) ?_
                refine aw_fork (lb.2 == 0) (by kernel_rfl) (by kernel_rfl) ?_ ?_
                · intro f51
                  have k51 := eq_of_beq f51
                  refine aw_val (v := .bool true) (.bool true) (by kernel_rfl) (by kernel_rfl) (rfl) ?_
                  refine aw_mid 55 (.tmp 4) 4 g4 0 55 [.int .i64 x, .int .i64 y] [.int .i64 x, .int .i64 y] _ HL50 (by kernel_rfl) rfl (by kernel_rfl) rfl rfl Tryd.underlying55 rfl (by kernel_rfl) ?_
                  refine aw_mid 55 (.tmp 12) 0 g46 0 55 [.int .i64 lb.1.1, .int .i64 lb.1.2] [.int .i64 lb.1.1, .int .i64 lb.1.2] _ HL50 (by kernel_rfl) rfl (by kernel_rfl) rfl rfl Tryd.underlying55 rfl (by kernel_rfl) ?_
                  refine aw_callb 35 #[.agg #[.int .i64 x, .int .i64 y], .agg #[.int .i64 lb.1.1, .int .i64 lb.1.2]] (winB x y lb.1.1 lb.1.2) HL50 (by kernel_rfl) (by kernel_rfl) (within8_any x y lb.1.1 lb.1.2 w49) ?_ ?_
                  · intro f55 w53 HL54
                    clear HL50
                    have k55 := winB_iff.1 f55
                    refine aw_val (v := .bool false) (.bool false) (by kernel_rfl) (by kernel_rfl) (rfl) ?_
                    refine aw_val (v := .bool false) (.bool false) (by kernel_rfl) (by kernel_rfl) (rfl) ?_
                    refine aw_val (v := .bool false) (.bool false) (by kernel_rfl) (by kernel_rfl) (rfl) ?_
                    refine aw_val (v := .int .i64 lb.2) (.int .i64 lb.2) (by kernel_rfl) (by kernel_rfl) (rfl) ?_
                    refine aw_fork (lb.2 == 2) (by kernel_rfl) (by kernel_rfl) ?_ ?_
                    · intro f57
                      have k57 := eq_of_beq f57
                      refine aw_val (v := .bool true) (.bool true) (by kernel_rfl) (by kernel_rfl) (rfl) ?_
                      refine aw_nil ?_
                      refine aw_n_then ?_
                      refine aw_yes (by kernel_rfl) ?_
                      refine aw_seq ?_
                      refine aw_reg ?_
                      refine aw_val (v := .bool false) (.bool false) (by kernel_rfl) (by kernel_rfl) (rfl) ?_
                      refine aw_nil ?_
                      refine aw_n_then ?_
                      refine aw_ret ?_
                      refine aw_r_then ?_
                      refine aw_end (.bool false) rfl (by kernel_rfl) ?_
                      exfalso
                      omega
                    · intro f58
                      have k58 := ne_of_beq_false f58
                      refine aw_val (v := .bool false) (.bool false) (by kernel_rfl) (by kernel_rfl) (rfl) ?_
                      refine aw_nil ?_
                      refine aw_n_then ?_
                      refine aw_no (by kernel_rfl) ?_
                      refine aw_skip0 ?_
                      refine aw_n_then ?_
                      refine aw_seq ?_
                      refine aw_reg ?_
                      refine aw_call 36 #[] (.bool true) HL54 (by kernel_rfl) (by kernel_rfl) (shown_any w53 (hkd.loc HL54)) ?_
                      intro w59 HL60
                      clear HL54
                      refine aw_val (v := .bool true) (.bool true) (by kernel_rfl) (by kernel_rfl) (rfl) ?_
                      refine aw_nil ?_
                      refine aw_n_then ?_
                      refine aw_ret ?_
                      refine aw_end (.bool true) rfl (by kernel_rfl) ?_
                      exact ⟨rfl, HL60.bel⟩
                  · intro f56 w53 HL54
                    clear HL50
                    have k56 := winB_no f56
                    refine aw_val (v := .bool true) (.bool true) (by kernel_rfl) (by kernel_rfl) (rfl) ?_
                    refine aw_val (v := .bool true) (.bool true) (by kernel_rfl) (by kernel_rfl) (rfl) ?_
                    refine aw_val (v := .bool true) (.bool true) (by kernel_rfl) (by kernel_rfl) (rfl) ?_
                    refine aw_pass  (by kernel_rfl) ?_
                    refine aw_pass  (by kernel_rfl) ?_
                    refine aw_val (v := .bool true) (.bool true) (by kernel_rfl) (by kernel_rfl) (rfl) ?_
                    refine aw_nil ?_
                    refine aw_n_then ?_
                    refine aw_yes (by kernel_rfl) ?_
                    refine aw_seq ?_
                    refine aw_reg ?_
                    refine aw_val (v := .bool false) (.bool false) (by kernel_rfl) (by kernel_rfl) (rfl) ?_
                    refine aw_nil ?_
                    refine aw_n_then ?_
                    refine aw_ret ?_
                    refine aw_r_then ?_
                    refine aw_end (.bool false) rfl (by kernel_rfl) ?_
                    exfalso
                    omega
                · intro f52
                  have k52 := ne_of_beq_false f52
                  refine aw_val (v := .bool false) (.bool false) (by kernel_rfl) (by kernel_rfl) (rfl) ?_
                  refine aw_pass  (by kernel_rfl) ?_
                  refine aw_pass  (by kernel_rfl) ?_
                  refine aw_pass  (by kernel_rfl) ?_
                  refine aw_pass  (by kernel_rfl) ?_
                  refine aw_val (v := .bool false) (.bool false) (by kernel_rfl) (by kernel_rfl) (rfl) ?_
                  refine aw_val (v := .bool false) (.bool false) (by kernel_rfl) (by kernel_rfl) (rfl) ?_
                  refine aw_val (v := .int .i64 lb.2) (.int .i64 lb.2) (by kernel_rfl) (by kernel_rfl) (rfl) ?_
                  refine aw_fork (lb.2 == 2) (by kernel_rfl) (by kernel_rfl) ?_ ?_
                  · intro f61
                    have k61 := eq_of_beq f61
                    refine aw_val (v := .bool true) (.bool true) (by kernel_rfl) (by kernel_rfl) (rfl) ?_
                    refine aw_nil ?_
                    refine aw_n_then ?_
                    refine aw_yes (by kernel_rfl) ?_
                    refine aw_seq ?_
                    refine aw_reg ?_
                    refine aw_val (v := .bool false) (.bool false) (by kernel_rfl) (by kernel_rfl) (rfl) ?_
                    refine aw_nil ?_
                    refine aw_n_then ?_
                    refine aw_ret ?_
                    refine aw_r_then ?_
                    refine aw_end (.bool false) rfl (by kernel_rfl) ?_
                    exfalso
                    omega
                  · intro f62
                    have k62 := ne_of_beq_false f62
                    refine aw_val (v := .bool false) (.bool false) (by kernel_rfl) (by kernel_rfl) (rfl) ?_
                    refine aw_nil ?_
                    refine aw_n_then ?_
                    refine aw_no (by kernel_rfl) ?_
                    refine aw_skip0 ?_
                    refine aw_n_then ?_
                    refine aw_seq ?_
                    refine aw_reg ?_
                    refine aw_call 36 #[] (.bool true) HL50 (by kernel_rfl) (by kernel_rfl) (shown_any w49 (hkd.loc HL50)) ?_
                    intro w63 HL64
                    clear HL50
                    refine aw_val (v := .bool true) (.bool true) (by kernel_rfl) (by kernel_rfl) (rfl) ?_
                    refine aw_nil ?_
                    refine aw_n_then ?_
                    refine aw_ret ?_
                    refine aw_end (.bool true) rfl (by kernel_rfl) ?_
                    exact ⟨rfl, HL64.bel⟩
              · intro f43
                have k43 := of_decide_eq_false f43
                refine aw_val (v := .bool false) (.bool false) (by kernel_rfl) (by kernel_rfl) (rfl) ?_
                refine aw_nil ?_
                refine aw_n_then ?_
                refine aw_no (by kernel_rfl) ?_
                refine aw_skip0 ?_
                refine aw_n_then ?_
                refine aw_seq ?_
                refine aw_reg ?_
                refine aw_call 36 #[] (.bool true) HL37 (by kernel_rfl) (by kernel_rfl) (shown_any w36 (hkd.loc HL37)) ?_
                intro w65 HL66
                clear HL37
                refine aw_val (v := .bool true) (.bool true) (by kernel_rfl) (by kernel_rfl) (rfl) ?_
                refine aw_nil ?_
                refine aw_n_then ?_
                refine aw_ret ?_
                refine aw_end (.bool true) rfl (by kernel_rfl) ?_
                exact ⟨rfl, HL66.bel⟩
            · intro f41
              have k41 := of_decide_eq_false f41
              refine aw_val (v := .bool false) (.bool false) (by kernel_rfl) (by kernel_rfl) (rfl) ?_
              refine aw_val (v := .bool false) (.bool false) (by kernel_rfl) (by kernel_rfl) (rfl) ?_
              refine aw_pass  (by kernel_rfl) ?_
              refine aw_pass  (by kernel_rfl) ?_
              refine aw_pass  (by kernel_rfl) ?_
              refine aw_val (v := .bool false) (.bool false) (by kernel_rfl) (by kernel_rfl) (rfl) ?_
              refine aw_nil ?_
              refine aw_n_then ?_
              refine aw_no (by kernel_rfl) ?_
              refine aw_skip0 ?_
              refine aw_n_then ?_
              refine aw_seq ?_
              refine aw_reg ?_
              refine aw_call 36 #[] (.bool true) HL37 (by kernel_rfl) (by kernel_rfl) (shown_any w36 (hkd.loc HL37)) ?_
              intro w67 HL68
              clear HL37
              refine aw_val (v := .bool true) (.bool true) (by kernel_rfl) (by kernel_rfl) (rfl) ?_
              refine aw_nil ?_
              refine aw_n_then ?_
              refine aw_ret ?_
              refine aw_end (.bool true) rfl (by kernel_rfl) ?_
              exact ⟨rfl, HL68.bel⟩
          · intro f39
            have k39 := ne_of_beq_false f39
            refine aw_val (v := .bool false) (.bool false) (by kernel_rfl) (by kernel_rfl) (rfl) ?_
            refine aw_pass  (by kernel_rfl) ?_
            refine aw_pass  (by kernel_rfl) ?_
            refine aw_pass  (by kernel_rfl) ?_
            refine aw_val (v := .bool false) (.bool false) (by kernel_rfl) (by kernel_rfl) (rfl) ?_
            refine aw_val (v := .bool false) (.bool false) (by kernel_rfl) (by kernel_rfl) (rfl) ?_
            refine aw_pass  (by kernel_rfl) ?_
            refine aw_pass  (by kernel_rfl) ?_
            refine aw_pass  (by kernel_rfl) ?_
            refine aw_val (v := .bool false) (.bool false) (by kernel_rfl) (by kernel_rfl) (rfl) ?_
            refine aw_nil ?_
            refine aw_n_then ?_
            refine aw_no (by kernel_rfl) ?_
            refine aw_skip0 ?_
            refine aw_n_then ?_
            refine aw_seq ?_
            refine aw_reg ?_
            refine aw_call 36 #[] (.bool true) HL37 (by kernel_rfl) (by kernel_rfl) (shown_any w36 (hkd.loc HL37)) ?_
            intro w69 HL70
            clear HL37
            refine aw_val (v := .bool true) (.bool true) (by kernel_rfl) (by kernel_rfl) (rfl) ?_
            refine aw_nil ?_
            refine aw_n_then ?_
            refine aw_ret ?_
            refine aw_end (.bool true) rfl (by kernel_rfl) ?_
            exact ⟨rfl, HL70.bel⟩
      · intro f28 w25 HL26
        clear HL22
        have k28 := winB_no f28
        refine aw_val (v := .bool true) (.bool true) (by kernel_rfl) (by kernel_rfl) (rfl) ?_
        refine aw_val (v := .bool true) (.bool true) (by kernel_rfl) (by kernel_rfl) (rfl) ?_
        refine aw_val (v := .bool true) (.bool true) (by kernel_rfl) (by kernel_rfl) (rfl) ?_
        refine aw_pass  (by kernel_rfl) ?_
        refine aw_pass  (by kernel_rfl) ?_
        refine aw_val (v := .bool true) (.bool true) (by kernel_rfl) (by kernel_rfl) (rfl) ?_
        refine aw_nil ?_
        refine aw_n_then ?_
        refine aw_yes (by kernel_rfl) ?_
        refine aw_seq ?_
        refine aw_reg ?_
        refine aw_val (v := .bool false) (.bool false) (by kernel_rfl) (by kernel_rfl) (rfl) ?_
        refine aw_nil ?_
        refine aw_n_then ?_
        refine aw_ret ?_
        refine aw_r_then ?_
        refine aw_end (.bool false) rfl (by kernel_rfl) ?_
        exfalso
        omega
    · intro f24
      have k24 := ne_of_beq_false f24
      refine aw_val (v := .bool false) (.bool false) (by kernel_rfl) (by kernel_rfl) (rfl) ?_
      refine aw_pass  (by kernel_rfl) ?_
      refine aw_pass  (by kernel_rfl) ?_
      refine aw_pass  (by kernel_rfl) ?_
      refine aw_pass  (by kernel_rfl) ?_
      refine aw_val (v := .bool false) (.bool false) (by kernel_rfl) (by kernel_rfl) (rfl) ?_
      refine aw_val (v := .bool false) (.bool false) (by kernel_rfl) (by kernel_rfl) (rfl) ?_
      refine aw_val (v := .int .i64 pa.2) (.int .i64 pa.2) (by kernel_rfl) (by kernel_rfl) (rfl) ?_
      refine aw_fork (pa.2 == 2) (by kernel_rfl) (by kernel_rfl) ?_ ?_
      · intro f71
        have k71 := eq_of_beq f71
        refine aw_val (v := .bool true) (.bool true) (by kernel_rfl) (by kernel_rfl) (rfl) ?_
        refine aw_nil ?_
        refine aw_n_then ?_
        refine aw_yes (by kernel_rfl) ?_
        refine aw_seq ?_
        refine aw_reg ?_
        refine aw_val (v := .bool false) (.bool false) (by kernel_rfl) (by kernel_rfl) (rfl) ?_
        refine aw_nil ?_
        refine aw_n_then ?_
        refine aw_ret ?_
        refine aw_r_then ?_
        refine aw_end (.bool false) rfl (by kernel_rfl) ?_
        exfalso
        omega
      · intro f72
        have k72 := ne_of_beq_false f72
        refine aw_val (v := .bool false) (.bool false) (by kernel_rfl) (by kernel_rfl) (rfl) ?_
        refine aw_nil ?_
        refine aw_n_then ?_
        refine aw_no (by kernel_rfl) ?_
        refine aw_skip0 ?_
        refine aw_n_then ?_
        refine aw_seq ?_
        refine aw_reg ?_
        refine aw_mid 64 (.tmp 3) 3 g1 0 64 [.int .i64 k, .int .i64 B, .int .i64 T, .int .i64 M, .int .i64 C] [.int .i64 k, .int .i64 B, .int .i64 T, .int .i64 M, .int .i64 C] _ HL22 (by kernel_rfl) rfl (by kernel_rfl) rfl rfl Tryd.underlying64 rfl (by kernel_rfl) ?_
        refine aw_mid 55 (.tmp 4) 2 g4 0 55 [.int .i64 x, .int .i64 y] [.int .i64 x, .int .i64 y] _ HL22 (by kernel_rfl) rfl (by kernel_rfl) rfl rfl Tryd.underlying55 rfl (by kernel_rfl) ?_
        refine aw_val (v := .int .i64 t) (.int .i64 t) (by kernel_rfl) (by kernel_rfl) (rfl) ?_
        refine aw_call 34 #[.agg #[.int .i64 k, .int .i64 B, .int .i64 T, .int .i64 M, .int .i64 C], .agg #[.int .i64 x, .int .i64 y], .int .i64 t] (.tuple #[.agg #[.int .i64 pb.1.1, .int .i64 pb.1.2], .int .i64 pb.2]) HL22 (by kernel_rfl) (by kernel_rfl) ((by have h0 := Pitch_any k B T M C x y t w21 (hkd.loc HL22) hI; rw [hpb] at h0; exact h0)) ?_
        intro w73 HL74
        clear HL22
        refine aw_val (v := .tuple #[.agg #[.int .i64 pb.1.1, .int .i64 pb.1.2], .int .i64 pb.2]) (.tuple #[.agg #[.int .i64 pb.1.1, .int .i64 pb.1.2], .int .i64 pb.2]) (by kernel_rfl) (by kernel_rfl) (rfl) ?_
        refine aw_val (v := .agg #[.int .i64 pb.1.1, .int .i64 pb.1.2]) (.agg #[.int .i64 pb.1.1, .int .i64 pb.1.2]) (by kernel_rfl) (by kernel_rfl) (rfl) ?_
        refine aw_val (v := .int .i64 pb.2) (.int .i64 pb.2) (by kernel_rfl) (by kernel_rfl) (rfl) ?_
        refine aw_new 55 [.int .i64 0, .int .i64 0] HL74 (by kernel_rfl) (by kernel_rfl) ?_
        intro g75 w76 HL77
        clear HL74
        refine aw_store 55 (.tmp 11) (.tmp 47) 0 g75 0 55 [.int .i64 0, .int .i64 0] [.int .i64 pb.1.1, .int .i64 pb.1.2] [.int .i64 pb.1.1, .int .i64 pb.1.2] [(g75, 55, [.int .i64 pb.1.1, .int .i64 pb.1.2]), (g18, 55, [.int .i64 pa.1.1, .int .i64 pa.1.2]), (g9, 55, [.int .i64 la.1.1, .int .i64 la.1.2]), (g4, 55, [.int .i64 x, .int .i64 y]), (g1, 64, [.int .i64 k, .int .i64 B, .int .i64 T, .int .i64 M, .int .i64 C])] HL77 (by kernel_rfl) rfl (by kernel_rfl) (by kernel_rfl) rfl (by kernel_rfl) (by kernel_rfl) (Nat.le_of_ble_eq_true rfl) rfl rfl ?_
        intro w78 HL79
        clear HL77
        refine aw_val (v := .int .i64 pb.2) (.int .i64 pb.2) (by kernel_rfl) (by kernel_rfl) (rfl) ?_
        refine aw_nil ?_
        refine aw_n_then ?_
        refine aw_seq ?_
        refine aw_seq ?_
        refine aw_reg ?_
        refine aw_val (v := .int .i64 pb.2) (.int .i64 pb.2) (by kernel_rfl) (by kernel_rfl) (rfl) ?_
        refine aw_fork (pb.2 == 0) (by kernel_rfl) (by kernel_rfl) ?_ ?_
        · intro f80
          have k80 := eq_of_beq f80
          refine aw_val (v := .bool true) (.bool true) (by kernel_rfl) (by kernel_rfl) (rfl) ?_
          refine aw_val (v := .pointer (some ⟨g75, 0, none⟩)) (.pointer (some ⟨g75, 0, none⟩)) (by kernel_rfl) (by kernel_rfl) (rfl) ?_
          refine aw_load 2 (.tmp 52) 0 g75 0 55 [.int .i64 pb.1.1, .int .i64 pb.1.2] (.int .i64 pb.1.1) _ HL79 (by kernel_rfl) rfl (by kernel_rfl) rfl rfl Tryd.underlying2 rfl ?_
          refine aw_fork (decide (1000 ≤ pb.1.1)) (by kernel_rfl) (by kernel_rfl) ?_ ?_
          · intro f82
            have k82 := of_decide_eq_true f82
            refine aw_val (v := .bool true) (.bool true) (by kernel_rfl) (by kernel_rfl) (rfl) ?_
            refine aw_val (v := .bool true) (.bool true) (by kernel_rfl) (by kernel_rfl) (rfl) ?_
            refine aw_val (v := .pointer (some ⟨g75, 1, none⟩)) (.pointer (some ⟨g75, 1, none⟩)) (by kernel_rfl) (by kernel_rfl) (rfl) ?_
            refine aw_load 2 (.tmp 57) 0 g75 1 55 [.int .i64 pb.1.1, .int .i64 pb.1.2] (.int .i64 pb.1.2) _ HL79 (by kernel_rfl) rfl (by kernel_rfl) rfl rfl Tryd.underlying2 rfl ?_
            refine aw_fork (decide (pb.1.2 ≤ 20000000)) (by kernel_rfl) (by kernel_rfl) ?_ ?_
            · intro f84
              have k84 := of_decide_eq_true f84
              refine aw_val (v := .bool true) (.bool true) (by kernel_rfl) (by kernel_rfl) (rfl) ?_
              refine aw_nil ?_
              refine aw_n_then ?_
              refine aw_yes (by kernel_rfl) ?_
              refine aw_seq ?_
              refine aw_reg ?_
              refine aw_mid 64 (.tmp 3) 4 g1 0 64 [.int .i64 k, .int .i64 B, .int .i64 T, .int .i64 M, .int .i64 C] [.int .i64 k, .int .i64 B, .int .i64 T, .int .i64 M, .int .i64 C] _ HL79 (by kernel_rfl) rfl (by kernel_rfl) rfl rfl Tryd.underlying64 rfl (by kernel_rfl) ?_
              refine aw_mid 55 (.tmp 11) 0 g75 0 55 [.int .i64 pb.1.1, .int .i64 pb.1.2] [.int .i64 pb.1.1, .int .i64 pb.1.2] _ HL79 (by kernel_rfl) rfl (by kernel_rfl) rfl rfl Tryd.underlying55 rfl (by kernel_rfl) ?_
              refine aw_val (v := .int .i64 t) (.int .i64 t) (by kernel_rfl) (by kernel_rfl) (rfl) ?_
              refine aw_call 33 #[.agg #[.int .i64 k, .int .i64 B, .int .i64 T, .int .i64 M, .int .i64 C], .agg #[.int .i64 pb.1.1, .int .i64 pb.1.2], .int .i64 t] (.tuple #[.agg #[.int .i64 lb.1.1, .int .i64 lb.1.2], .int .i64 lb.2]) HL79 (by kernel_rfl) (by kernel_rfl) ((by have h0 := Length_any k B T M C pb.1.1 pb.1.2 t w78 (hkd.loc HL79) hob; rw [hlb] at h0; exact h0)) ?_
              intro w86 HL87
              clear HL79
              refine aw_val (v := .tuple #[.agg #[.int .i64 lb.1.1, .int .i64 lb.1.2], .int .i64 lb.2]) (.tuple #[.agg #[.int .i64 lb.1.1, .int .i64 lb.1.2], .int .i64 lb.2]) (by kernel_rfl) (by kernel_rfl) (rfl) ?_
              refine aw_val (v := .agg #[.int .i64 lb.1.1, .int .i64 lb.1.2]) (.agg #[.int .i64 lb.1.1, .int .i64 lb.1.2]) (by kernel_rfl) (by kernel_rfl) (rfl) ?_
              refine aw_val (v := .int .i64 lb.2) (.int .i64 lb.2) (by kernel_rfl) (by kernel_rfl) (rfl) ?_
              refine aw_new 55 [.int .i64 0, .int .i64 0] HL87 (by kernel_rfl) (by kernel_rfl) ?_
              intro g88 w89 HL90
              clear HL87
              refine aw_store 55 (.tmp 12) (.tmp 66) 0 g88 0 55 [.int .i64 0, .int .i64 0] [.int .i64 lb.1.1, .int .i64 lb.1.2] [.int .i64 lb.1.1, .int .i64 lb.1.2] [(g88, 55, [.int .i64 lb.1.1, .int .i64 lb.1.2]), (g75, 55, [.int .i64 pb.1.1, .int .i64 pb.1.2]), (g18, 55, [.int .i64 pa.1.1, .int .i64 pa.1.2]), (g9, 55, [.int .i64 la.1.1, .int .i64 la.1.2]), (g4, 55, [.int .i64 x, .int .i64 y]), (g1, 64, [.int .i64 k, .int .i64 B, .int .i64 T, .int .i64 M, .int .i64 C])] HL90 (by kernel_rfl) rfl (by kernel_rfl) (by kernel_rfl) rfl (by kernel_rfl) (by kernel_rfl) (Nat.le_of_ble_eq_true rfl) rfl rfl ?_
              intro w91 HL92
              clear HL90
              refine aw_val (v := .int .i64 lb.2) (.int .i64 lb.2) (by kernel_rfl) (by kernel_rfl) (rfl) ?_
              refine aw_nil ?_
              refine aw_n_then ?_
              refine aw_seq ?_
              refine aw_reg ?_
              refine aw_val (v := .int .i64 lb.2) (.int .i64 lb.2) (by kernel_rfl) (by kernel_rfl) (rfl) ?_
              refine aw_fork (lb.2 == 0) (by kernel_rfl) (by kernel_rfl) ?_ ?_
              · intro f93
                have k93 := eq_of_beq f93
                refine aw_val (v := .bool true) (.bool true) (by kernel_rfl) (by kernel_rfl) (rfl) ?_
                refine aw_mid 55 (.tmp 4) 4 g4 0 55 [.int .i64 x, .int .i64 y] [.int .i64 x, .int .i64 y] _ HL92 (by kernel_rfl) rfl (by kernel_rfl) rfl rfl Tryd.underlying55 rfl (by kernel_rfl) ?_
                refine aw_mid 55 (.tmp 12) 0 g88 0 55 [.int .i64 lb.1.1, .int .i64 lb.1.2] [.int .i64 lb.1.1, .int .i64 lb.1.2] _ HL92 (by kernel_rfl) rfl (by kernel_rfl) rfl rfl Tryd.underlying55 rfl (by kernel_rfl) ?_
                refine aw_callb 35 #[.agg #[.int .i64 x, .int .i64 y], .agg #[.int .i64 lb.1.1, .int .i64 lb.1.2]] (winB x y lb.1.1 lb.1.2) HL92 (by kernel_rfl) (by kernel_rfl) (within8_any x y lb.1.1 lb.1.2 w91) ?_ ?_
                · intro f97 w95 HL96
                  clear HL92
                  have k97 := winB_iff.1 f97
                  refine aw_val (v := .bool false) (.bool false) (by kernel_rfl) (by kernel_rfl) (rfl) ?_
                  refine aw_val (v := .bool false) (.bool false) (by kernel_rfl) (by kernel_rfl) (rfl) ?_
                  refine aw_val (v := .bool false) (.bool false) (by kernel_rfl) (by kernel_rfl) (rfl) ?_
                  refine aw_val (v := .int .i64 lb.2) (.int .i64 lb.2) (by kernel_rfl) (by kernel_rfl) (rfl) ?_
                  refine aw_fork (lb.2 == 2) (by kernel_rfl) (by kernel_rfl) ?_ ?_
                  · intro f99
                    have k99 := eq_of_beq f99
                    refine aw_val (v := .bool true) (.bool true) (by kernel_rfl) (by kernel_rfl) (rfl) ?_
                    refine aw_nil ?_
                    refine aw_n_then ?_
                    refine aw_yes (by kernel_rfl) ?_
                    refine aw_seq ?_
                    refine aw_reg ?_
                    refine aw_val (v := .bool false) (.bool false) (by kernel_rfl) (by kernel_rfl) (rfl) ?_
                    refine aw_nil ?_
                    refine aw_n_then ?_
                    refine aw_ret ?_
                    refine aw_r_then ?_
                    refine aw_end (.bool false) rfl (by kernel_rfl) ?_
                    exfalso
                    omega
                  · intro f100
                    have k100 := ne_of_beq_false f100
                    refine aw_val (v := .bool false) (.bool false) (by kernel_rfl) (by kernel_rfl) (rfl) ?_
                    refine aw_nil ?_
                    refine aw_n_then ?_
                    refine aw_no (by kernel_rfl) ?_
                    refine aw_skip0 ?_
                    refine aw_n_then ?_
                    refine aw_seq ?_
                    refine aw_reg ?_
                    refine aw_call 36 #[] (.bool true) HL96 (by kernel_rfl) (by kernel_rfl) (shown_any w95 (hkd.loc HL96)) ?_
                    intro w101 HL102
                    clear HL96
                    refine aw_val (v := .bool true) (.bool true) (by kernel_rfl) (by kernel_rfl) (rfl) ?_
                    refine aw_nil ?_
                    refine aw_n_then ?_
                    refine aw_ret ?_
                    refine aw_end (.bool true) rfl (by kernel_rfl) ?_
                    exact ⟨rfl, HL102.bel⟩
                · intro f98 w95 HL96
                  clear HL92
                  have k98 := winB_no f98
                  refine aw_val (v := .bool true) (.bool true) (by kernel_rfl) (by kernel_rfl) (rfl) ?_
                  refine aw_val (v := .bool true) (.bool true) (by kernel_rfl) (by kernel_rfl) (rfl) ?_
                  refine aw_val (v := .bool true) (.bool true) (by kernel_rfl) (by kernel_rfl) (rfl) ?_
                  refine aw_pass  (by kernel_rfl) ?_
                  refine aw_pass  (by kernel_rfl) ?_
                  refine aw_val (v := .bool true) (.bool true) (by kernel_rfl) (by kernel_rfl) (rfl) ?_
                  refine aw_nil ?_
                  refine aw_n_then ?_
                  refine aw_yes (by kernel_rfl) ?_
                  refine aw_seq ?_
                  refine aw_reg ?_
                  refine aw_val (v := .bool false) (.bool false) (by kernel_rfl) (by kernel_rfl) (rfl) ?_
                  refine aw_nil ?_
                  refine aw_n_then ?_
                  refine aw_ret ?_
                  refine aw_r_then ?_
                  refine aw_end (.bool false) rfl (by kernel_rfl) ?_
                  exfalso
                  omega
              · intro f94
                have k94 := ne_of_beq_false f94
                refine aw_val (v := .bool false) (.bool false) (by kernel_rfl) (by kernel_rfl) (rfl) ?_
                refine aw_pass  (by kernel_rfl) ?_
                refine aw_pass  (by kernel_rfl) ?_
                refine aw_pass  (by kernel_rfl) ?_
                refine aw_pass  (by kernel_rfl) ?_
                refine aw_val (v := .bool false) (.bool false) (by kernel_rfl) (by kernel_rfl) (rfl) ?_
                refine aw_val (v := .bool false) (.bool false) (by kernel_rfl) (by kernel_rfl) (rfl) ?_
                refine aw_val (v := .int .i64 lb.2) (.int .i64 lb.2) (by kernel_rfl) (by kernel_rfl) (rfl) ?_
                refine aw_fork (lb.2 == 2) (by kernel_rfl) (by kernel_rfl) ?_ ?_
                · intro f103
                  have k103 := eq_of_beq f103
                  refine aw_val (v := .bool true) (.bool true) (by kernel_rfl) (by kernel_rfl) (rfl) ?_
                  refine aw_nil ?_
                  refine aw_n_then ?_
                  refine aw_yes (by kernel_rfl) ?_
                  refine aw_seq ?_
                  refine aw_reg ?_
                  refine aw_val (v := .bool false) (.bool false) (by kernel_rfl) (by kernel_rfl) (rfl) ?_
                  refine aw_nil ?_
                  refine aw_n_then ?_
                  refine aw_ret ?_
                  refine aw_r_then ?_
                  refine aw_end (.bool false) rfl (by kernel_rfl) ?_
                  exfalso
                  omega
                · intro f104
                  have k104 := ne_of_beq_false f104
                  refine aw_val (v := .bool false) (.bool false) (by kernel_rfl) (by kernel_rfl) (rfl) ?_
                  refine aw_nil ?_
                  refine aw_n_then ?_
                  refine aw_no (by kernel_rfl) ?_
                  refine aw_skip0 ?_
                  refine aw_n_then ?_
                  refine aw_seq ?_
                  refine aw_reg ?_
                  refine aw_call 36 #[] (.bool true) HL92 (by kernel_rfl) (by kernel_rfl) (shown_any w91 (hkd.loc HL92)) ?_
                  intro w105 HL106
                  clear HL92
                  refine aw_val (v := .bool true) (.bool true) (by kernel_rfl) (by kernel_rfl) (rfl) ?_
                  refine aw_nil ?_
                  refine aw_n_then ?_
                  refine aw_ret ?_
                  refine aw_end (.bool true) rfl (by kernel_rfl) ?_
                  exact ⟨rfl, HL106.bel⟩
            · intro f85
              have k85 := of_decide_eq_false f85
              refine aw_val (v := .bool false) (.bool false) (by kernel_rfl) (by kernel_rfl) (rfl) ?_
              refine aw_nil ?_
              refine aw_n_then ?_
              refine aw_no (by kernel_rfl) ?_
              refine aw_skip0 ?_
              refine aw_n_then ?_
              refine aw_seq ?_
              refine aw_reg ?_
              refine aw_call 36 #[] (.bool true) HL79 (by kernel_rfl) (by kernel_rfl) (shown_any w78 (hkd.loc HL79)) ?_
              intro w107 HL108
              clear HL79
              refine aw_val (v := .bool true) (.bool true) (by kernel_rfl) (by kernel_rfl) (rfl) ?_
              refine aw_nil ?_
              refine aw_n_then ?_
              refine aw_ret ?_
              refine aw_end (.bool true) rfl (by kernel_rfl) ?_
              exact ⟨rfl, HL108.bel⟩
          · intro f83
            have k83 := of_decide_eq_false f83
            refine aw_val (v := .bool false) (.bool false) (by kernel_rfl) (by kernel_rfl) (rfl) ?_
            refine aw_val (v := .bool false) (.bool false) (by kernel_rfl) (by kernel_rfl) (rfl) ?_
            refine aw_pass  (by kernel_rfl) ?_
            refine aw_pass  (by kernel_rfl) ?_
            refine aw_pass  (by kernel_rfl) ?_
            refine aw_val (v := .bool false) (.bool false) (by kernel_rfl) (by kernel_rfl) (rfl) ?_
            refine aw_nil ?_
            refine aw_n_then ?_
            refine aw_no (by kernel_rfl) ?_
            refine aw_skip0 ?_
            refine aw_n_then ?_
            refine aw_seq ?_
            refine aw_reg ?_
            refine aw_call 36 #[] (.bool true) HL79 (by kernel_rfl) (by kernel_rfl) (shown_any w78 (hkd.loc HL79)) ?_
            intro w109 HL110
            clear HL79
            refine aw_val (v := .bool true) (.bool true) (by kernel_rfl) (by kernel_rfl) (rfl) ?_
            refine aw_nil ?_
            refine aw_n_then ?_
            refine aw_ret ?_
            refine aw_end (.bool true) rfl (by kernel_rfl) ?_
            exact ⟨rfl, HL110.bel⟩
        · intro f81
          have k81 := ne_of_beq_false f81
          refine aw_val (v := .bool false) (.bool false) (by kernel_rfl) (by kernel_rfl) (rfl) ?_
          refine aw_pass  (by kernel_rfl) ?_
          refine aw_pass  (by kernel_rfl) ?_
          refine aw_pass  (by kernel_rfl) ?_
          refine aw_val (v := .bool false) (.bool false) (by kernel_rfl) (by kernel_rfl) (rfl) ?_
          refine aw_val (v := .bool false) (.bool false) (by kernel_rfl) (by kernel_rfl) (rfl) ?_
          refine aw_pass  (by kernel_rfl) ?_
          refine aw_pass  (by kernel_rfl) ?_
          refine aw_pass  (by kernel_rfl) ?_
          refine aw_val (v := .bool false) (.bool false) (by kernel_rfl) (by kernel_rfl) (rfl) ?_
          refine aw_nil ?_
          refine aw_n_then ?_
          refine aw_no (by kernel_rfl) ?_
          refine aw_skip0 ?_
          refine aw_n_then ?_
          refine aw_seq ?_
          refine aw_reg ?_
          refine aw_call 36 #[] (.bool true) HL79 (by kernel_rfl) (by kernel_rfl) (shown_any w78 (hkd.loc HL79)) ?_
          intro w111 HL112
          clear HL79
          refine aw_val (v := .bool true) (.bool true) (by kernel_rfl) (by kernel_rfl) (rfl) ?_
          refine aw_nil ?_
          refine aw_n_then ?_
          refine aw_ret ?_
          refine aw_end (.bool true) rfl (by kernel_rfl) ?_
          exact ⟨rfl, HL112.bel⟩
  · intro f15
    have k15 := ne_of_beq_false f15
    refine aw_nil ?_
    refine aw_n_then ?_
    refine aw_no (by kernel_rfl) ?_
    refine aw_skip0 ?_
    refine aw_n_then ?_
    refine aw_seq ?_
    refine aw_reg ?_
    refine aw_mid 64 (.tmp 3) 2 g1 0 64 [.int .i64 k, .int .i64 B, .int .i64 T, .int .i64 M, .int .i64 C] [.int .i64 k, .int .i64 B, .int .i64 T, .int .i64 M, .int .i64 C] _ HL13 (by kernel_rfl) rfl (by kernel_rfl) rfl rfl Tryd.underlying64 rfl (by kernel_rfl) ?_
    refine aw_mid 55 (.tmp 4) 1 g4 0 55 [.int .i64 x, .int .i64 y] [.int .i64 x, .int .i64 y] _ HL13 (by kernel_rfl) rfl (by kernel_rfl) rfl rfl Tryd.underlying55 rfl (by kernel_rfl) ?_
    refine aw_val (v := .int .i64 t) (.int .i64 t) (by kernel_rfl) (by kernel_rfl) (rfl) ?_
    refine aw_call 34 #[.agg #[.int .i64 k, .int .i64 B, .int .i64 T, .int .i64 M, .int .i64 C], .agg #[.int .i64 x, .int .i64 y], .int .i64 t] (.tuple #[.agg #[.int .i64 pb.1.1, .int .i64 pb.1.2], .int .i64 pb.2]) HL13 (by kernel_rfl) (by kernel_rfl) ((by have h0 := Pitch_any k B T M C x y t w12 (hkd.loc HL13) hI; rw [hpb] at h0; exact h0)) ?_
    intro w113 HL114
    clear HL13
    refine aw_val (v := .tuple #[.agg #[.int .i64 pb.1.1, .int .i64 pb.1.2], .int .i64 pb.2]) (.tuple #[.agg #[.int .i64 pb.1.1, .int .i64 pb.1.2], .int .i64 pb.2]) (by kernel_rfl) (by kernel_rfl) (rfl) ?_
    refine aw_val (v := .agg #[.int .i64 pb.1.1, .int .i64 pb.1.2]) (.agg #[.int .i64 pb.1.1, .int .i64 pb.1.2]) (by kernel_rfl) (by kernel_rfl) (rfl) ?_
    refine aw_val (v := .int .i64 pb.2) (.int .i64 pb.2) (by kernel_rfl) (by kernel_rfl) (rfl) ?_
    refine aw_new 55 [.int .i64 0, .int .i64 0] HL114 (by kernel_rfl) (by kernel_rfl) ?_
    intro g115 w116 HL117
    clear HL114
    refine aw_store 55 (.tmp 11) (.tmp 47) 0 g115 0 55 [.int .i64 0, .int .i64 0] [.int .i64 pb.1.1, .int .i64 pb.1.2] [.int .i64 pb.1.1, .int .i64 pb.1.2] [(g115, 55, [.int .i64 pb.1.1, .int .i64 pb.1.2]), (g9, 55, [.int .i64 la.1.1, .int .i64 la.1.2]), (g4, 55, [.int .i64 x, .int .i64 y]), (g1, 64, [.int .i64 k, .int .i64 B, .int .i64 T, .int .i64 M, .int .i64 C])] HL117 (by kernel_rfl) rfl (by kernel_rfl) (by kernel_rfl) rfl (by kernel_rfl) (by kernel_rfl) (Nat.le_of_ble_eq_true rfl) rfl rfl ?_
    intro w118 HL119
    clear HL117
    refine aw_val (v := .int .i64 pb.2) (.int .i64 pb.2) (by kernel_rfl) (by kernel_rfl) (rfl) ?_
    refine aw_nil ?_
    refine aw_n_then ?_
    refine aw_seq ?_
    refine aw_seq ?_
    refine aw_reg ?_
    refine aw_val (v := .int .i64 pb.2) (.int .i64 pb.2) (by kernel_rfl) (by kernel_rfl) (rfl) ?_
    refine aw_fork (pb.2 == 0) (by kernel_rfl) (by kernel_rfl) ?_ ?_
    · intro f120
      have k120 := eq_of_beq f120
      refine aw_val (v := .bool true) (.bool true) (by kernel_rfl) (by kernel_rfl) (rfl) ?_
      refine aw_val (v := .pointer (some ⟨g115, 0, none⟩)) (.pointer (some ⟨g115, 0, none⟩)) (by kernel_rfl) (by kernel_rfl) (rfl) ?_
      refine aw_load 2 (.tmp 52) 0 g115 0 55 [.int .i64 pb.1.1, .int .i64 pb.1.2] (.int .i64 pb.1.1) _ HL119 (by kernel_rfl) rfl (by kernel_rfl) rfl rfl Tryd.underlying2 rfl ?_
      refine aw_fork (decide (1000 ≤ pb.1.1)) (by kernel_rfl) (by kernel_rfl) ?_ ?_
      · intro f122
        have k122 := of_decide_eq_true f122
        refine aw_val (v := .bool true) (.bool true) (by kernel_rfl) (by kernel_rfl) (rfl) ?_
        refine aw_val (v := .bool true) (.bool true) (by kernel_rfl) (by kernel_rfl) (rfl) ?_
        refine aw_val (v := .pointer (some ⟨g115, 1, none⟩)) (.pointer (some ⟨g115, 1, none⟩)) (by kernel_rfl) (by kernel_rfl) (rfl) ?_
        refine aw_load 2 (.tmp 57) 0 g115 1 55 [.int .i64 pb.1.1, .int .i64 pb.1.2] (.int .i64 pb.1.2) _ HL119 (by kernel_rfl) rfl (by kernel_rfl) rfl rfl Tryd.underlying2 rfl ?_
        refine aw_fork (decide (pb.1.2 ≤ 20000000)) (by kernel_rfl) (by kernel_rfl) ?_ ?_
        · intro f124
          have k124 := of_decide_eq_true f124
          refine aw_val (v := .bool true) (.bool true) (by kernel_rfl) (by kernel_rfl) (rfl) ?_
          refine aw_nil ?_
          refine aw_n_then ?_
          refine aw_yes (by kernel_rfl) ?_
          refine aw_seq ?_
          refine aw_reg ?_
          refine aw_mid 64 (.tmp 3) 3 g1 0 64 [.int .i64 k, .int .i64 B, .int .i64 T, .int .i64 M, .int .i64 C] [.int .i64 k, .int .i64 B, .int .i64 T, .int .i64 M, .int .i64 C] _ HL119 (by kernel_rfl) rfl (by kernel_rfl) rfl rfl Tryd.underlying64 rfl (by kernel_rfl) ?_
          refine aw_mid 55 (.tmp 11) 0 g115 0 55 [.int .i64 pb.1.1, .int .i64 pb.1.2] [.int .i64 pb.1.1, .int .i64 pb.1.2] _ HL119 (by kernel_rfl) rfl (by kernel_rfl) rfl rfl Tryd.underlying55 rfl (by kernel_rfl) ?_
          refine aw_val (v := .int .i64 t) (.int .i64 t) (by kernel_rfl) (by kernel_rfl) (rfl) ?_
          refine aw_call 33 #[.agg #[.int .i64 k, .int .i64 B, .int .i64 T, .int .i64 M, .int .i64 C], .agg #[.int .i64 pb.1.1, .int .i64 pb.1.2], .int .i64 t] (.tuple #[.agg #[.int .i64 lb.1.1, .int .i64 lb.1.2], .int .i64 lb.2]) HL119 (by kernel_rfl) (by kernel_rfl) ((by have h0 := Length_any k B T M C pb.1.1 pb.1.2 t w118 (hkd.loc HL119) hob; rw [hlb] at h0; exact h0)) ?_
          intro w126 HL127
          clear HL119
          refine aw_val (v := .tuple #[.agg #[.int .i64 lb.1.1, .int .i64 lb.1.2], .int .i64 lb.2]) (.tuple #[.agg #[.int .i64 lb.1.1, .int .i64 lb.1.2], .int .i64 lb.2]) (by kernel_rfl) (by kernel_rfl) (rfl) ?_
          refine aw_val (v := .agg #[.int .i64 lb.1.1, .int .i64 lb.1.2]) (.agg #[.int .i64 lb.1.1, .int .i64 lb.1.2]) (by kernel_rfl) (by kernel_rfl) (rfl) ?_
          refine aw_val (v := .int .i64 lb.2) (.int .i64 lb.2) (by kernel_rfl) (by kernel_rfl) (rfl) ?_
          refine aw_new 55 [.int .i64 0, .int .i64 0] HL127 (by kernel_rfl) (by kernel_rfl) ?_
          intro g128 w129 HL130
          clear HL127
          refine aw_store 55 (.tmp 12) (.tmp 66) 0 g128 0 55 [.int .i64 0, .int .i64 0] [.int .i64 lb.1.1, .int .i64 lb.1.2] [.int .i64 lb.1.1, .int .i64 lb.1.2] [(g128, 55, [.int .i64 lb.1.1, .int .i64 lb.1.2]), (g115, 55, [.int .i64 pb.1.1, .int .i64 pb.1.2]), (g9, 55, [.int .i64 la.1.1, .int .i64 la.1.2]), (g4, 55, [.int .i64 x, .int .i64 y]), (g1, 64, [.int .i64 k, .int .i64 B, .int .i64 T, .int .i64 M, .int .i64 C])] HL130 (by kernel_rfl) rfl (by kernel_rfl) (by kernel_rfl) rfl (by kernel_rfl) (by kernel_rfl) (Nat.le_of_ble_eq_true rfl) rfl rfl ?_
          intro w131 HL132
          clear HL130
          refine aw_val (v := .int .i64 lb.2) (.int .i64 lb.2) (by kernel_rfl) (by kernel_rfl) (rfl) ?_
          refine aw_nil ?_
          refine aw_n_then ?_
          refine aw_seq ?_
          refine aw_reg ?_
          refine aw_val (v := .int .i64 lb.2) (.int .i64 lb.2) (by kernel_rfl) (by kernel_rfl) (rfl) ?_
          refine aw_fork (lb.2 == 0) (by kernel_rfl) (by kernel_rfl) ?_ ?_
          · intro f133
            have k133 := eq_of_beq f133
            refine aw_val (v := .bool true) (.bool true) (by kernel_rfl) (by kernel_rfl) (rfl) ?_
            refine aw_mid 55 (.tmp 4) 3 g4 0 55 [.int .i64 x, .int .i64 y] [.int .i64 x, .int .i64 y] _ HL132 (by kernel_rfl) rfl (by kernel_rfl) rfl rfl Tryd.underlying55 rfl (by kernel_rfl) ?_
            refine aw_mid 55 (.tmp 12) 0 g128 0 55 [.int .i64 lb.1.1, .int .i64 lb.1.2] [.int .i64 lb.1.1, .int .i64 lb.1.2] _ HL132 (by kernel_rfl) rfl (by kernel_rfl) rfl rfl Tryd.underlying55 rfl (by kernel_rfl) ?_
            refine aw_callb 35 #[.agg #[.int .i64 x, .int .i64 y], .agg #[.int .i64 lb.1.1, .int .i64 lb.1.2]] (winB x y lb.1.1 lb.1.2) HL132 (by kernel_rfl) (by kernel_rfl) (within8_any x y lb.1.1 lb.1.2 w131) ?_ ?_
            · intro f137 w135 HL136
              clear HL132
              have k137 := winB_iff.1 f137
              refine aw_val (v := .bool false) (.bool false) (by kernel_rfl) (by kernel_rfl) (rfl) ?_
              refine aw_val (v := .bool false) (.bool false) (by kernel_rfl) (by kernel_rfl) (rfl) ?_
              refine aw_val (v := .bool false) (.bool false) (by kernel_rfl) (by kernel_rfl) (rfl) ?_
              refine aw_val (v := .int .i64 lb.2) (.int .i64 lb.2) (by kernel_rfl) (by kernel_rfl) (rfl) ?_
              refine aw_fork (lb.2 == 2) (by kernel_rfl) (by kernel_rfl) ?_ ?_
              · intro f139
                have k139 := eq_of_beq f139
                refine aw_val (v := .bool true) (.bool true) (by kernel_rfl) (by kernel_rfl) (rfl) ?_
                refine aw_nil ?_
                refine aw_n_then ?_
                refine aw_yes (by kernel_rfl) ?_
                refine aw_seq ?_
                refine aw_reg ?_
                refine aw_val (v := .bool false) (.bool false) (by kernel_rfl) (by kernel_rfl) (rfl) ?_
                refine aw_nil ?_
                refine aw_n_then ?_
                refine aw_ret ?_
                refine aw_r_then ?_
                refine aw_end (.bool false) rfl (by kernel_rfl) ?_
                exfalso
                omega
              · intro f140
                have k140 := ne_of_beq_false f140
                refine aw_val (v := .bool false) (.bool false) (by kernel_rfl) (by kernel_rfl) (rfl) ?_
                refine aw_nil ?_
                refine aw_n_then ?_
                refine aw_no (by kernel_rfl) ?_
                refine aw_skip0 ?_
                refine aw_n_then ?_
                refine aw_seq ?_
                refine aw_reg ?_
                refine aw_call 36 #[] (.bool true) HL136 (by kernel_rfl) (by kernel_rfl) (shown_any w135 (hkd.loc HL136)) ?_
                intro w141 HL142
                clear HL136
                refine aw_val (v := .bool true) (.bool true) (by kernel_rfl) (by kernel_rfl) (rfl) ?_
                refine aw_nil ?_
                refine aw_n_then ?_
                refine aw_ret ?_
                refine aw_end (.bool true) rfl (by kernel_rfl) ?_
                exact ⟨rfl, HL142.bel⟩
            · intro f138 w135 HL136
              clear HL132
              have k138 := winB_no f138
              refine aw_val (v := .bool true) (.bool true) (by kernel_rfl) (by kernel_rfl) (rfl) ?_
              refine aw_val (v := .bool true) (.bool true) (by kernel_rfl) (by kernel_rfl) (rfl) ?_
              refine aw_val (v := .bool true) (.bool true) (by kernel_rfl) (by kernel_rfl) (rfl) ?_
              refine aw_pass  (by kernel_rfl) ?_
              refine aw_pass  (by kernel_rfl) ?_
              refine aw_val (v := .bool true) (.bool true) (by kernel_rfl) (by kernel_rfl) (rfl) ?_
              refine aw_nil ?_
              refine aw_n_then ?_
              refine aw_yes (by kernel_rfl) ?_
              refine aw_seq ?_
              refine aw_reg ?_
              refine aw_val (v := .bool false) (.bool false) (by kernel_rfl) (by kernel_rfl) (rfl) ?_
              refine aw_nil ?_
              refine aw_n_then ?_
              refine aw_ret ?_
              refine aw_r_then ?_
              refine aw_end (.bool false) rfl (by kernel_rfl) ?_
              exfalso
              omega
          · intro f134
            have k134 := ne_of_beq_false f134
            refine aw_val (v := .bool false) (.bool false) (by kernel_rfl) (by kernel_rfl) (rfl) ?_
            refine aw_pass  (by kernel_rfl) ?_
            refine aw_pass  (by kernel_rfl) ?_
            refine aw_pass  (by kernel_rfl) ?_
            refine aw_pass  (by kernel_rfl) ?_
            refine aw_val (v := .bool false) (.bool false) (by kernel_rfl) (by kernel_rfl) (rfl) ?_
            refine aw_val (v := .bool false) (.bool false) (by kernel_rfl) (by kernel_rfl) (rfl) ?_
            refine aw_val (v := .int .i64 lb.2) (.int .i64 lb.2) (by kernel_rfl) (by kernel_rfl) (rfl) ?_
            refine aw_fork (lb.2 == 2) (by kernel_rfl) (by kernel_rfl) ?_ ?_
            · intro f143
              have k143 := eq_of_beq f143
              refine aw_val (v := .bool true) (.bool true) (by kernel_rfl) (by kernel_rfl) (rfl) ?_
              refine aw_nil ?_
              refine aw_n_then ?_
              refine aw_yes (by kernel_rfl) ?_
              refine aw_seq ?_
              refine aw_reg ?_
              refine aw_val (v := .bool false) (.bool false) (by kernel_rfl) (by kernel_rfl) (rfl) ?_
              refine aw_nil ?_
              refine aw_n_then ?_
              refine aw_ret ?_
              refine aw_r_then ?_
              refine aw_end (.bool false) rfl (by kernel_rfl) ?_
              exfalso
              omega
            · intro f144
              have k144 := ne_of_beq_false f144
              refine aw_val (v := .bool false) (.bool false) (by kernel_rfl) (by kernel_rfl) (rfl) ?_
              refine aw_nil ?_
              refine aw_n_then ?_
              refine aw_no (by kernel_rfl) ?_
              refine aw_skip0 ?_
              refine aw_n_then ?_
              refine aw_seq ?_
              refine aw_reg ?_
              refine aw_call 36 #[] (.bool true) HL132 (by kernel_rfl) (by kernel_rfl) (shown_any w131 (hkd.loc HL132)) ?_
              intro w145 HL146
              clear HL132
              refine aw_val (v := .bool true) (.bool true) (by kernel_rfl) (by kernel_rfl) (rfl) ?_
              refine aw_nil ?_
              refine aw_n_then ?_
              refine aw_ret ?_
              refine aw_end (.bool true) rfl (by kernel_rfl) ?_
              exact ⟨rfl, HL146.bel⟩
        · intro f125
          have k125 := of_decide_eq_false f125
          refine aw_val (v := .bool false) (.bool false) (by kernel_rfl) (by kernel_rfl) (rfl) ?_
          refine aw_nil ?_
          refine aw_n_then ?_
          refine aw_no (by kernel_rfl) ?_
          refine aw_skip0 ?_
          refine aw_n_then ?_
          refine aw_seq ?_
          refine aw_reg ?_
          refine aw_call 36 #[] (.bool true) HL119 (by kernel_rfl) (by kernel_rfl) (shown_any w118 (hkd.loc HL119)) ?_
          intro w147 HL148
          clear HL119
          refine aw_val (v := .bool true) (.bool true) (by kernel_rfl) (by kernel_rfl) (rfl) ?_
          refine aw_nil ?_
          refine aw_n_then ?_
          refine aw_ret ?_
          refine aw_end (.bool true) rfl (by kernel_rfl) ?_
          exact ⟨rfl, HL148.bel⟩
      · intro f123
        have k123 := of_decide_eq_false f123
        refine aw_val (v := .bool false) (.bool false) (by kernel_rfl) (by kernel_rfl) (rfl) ?_
        refine aw_val (v := .bool false) (.bool false) (by kernel_rfl) (by kernel_rfl) (rfl) ?_
        refine aw_pass  (by kernel_rfl) ?_
        refine aw_pass  (by kernel_rfl) ?_
        refine aw_pass  (by kernel_rfl) ?_
        refine aw_val (v := .bool false) (.bool false) (by kernel_rfl) (by kernel_rfl) (rfl) ?_
        refine aw_nil ?_
        refine aw_n_then ?_
        refine aw_no (by kernel_rfl) ?_
        refine aw_skip0 ?_
        refine aw_n_then ?_
        refine aw_seq ?_
        refine aw_reg ?_
        refine aw_call 36 #[] (.bool true) HL119 (by kernel_rfl) (by kernel_rfl) (shown_any w118 (hkd.loc HL119)) ?_
        intro w149 HL150
        clear HL119
        refine aw_val (v := .bool true) (.bool true) (by kernel_rfl) (by kernel_rfl) (rfl) ?_
        refine aw_nil ?_
        refine aw_n_then ?_
        refine aw_ret ?_
        refine aw_end (.bool true) rfl (by kernel_rfl) ?_
        exact ⟨rfl, HL150.bel⟩
    · intro f121
      have k121 := ne_of_beq_false f121
      refine aw_val (v := .bool false) (.bool false) (by kernel_rfl) (by kernel_rfl) (rfl) ?_
      refine aw_pass  (by kernel_rfl) ?_
      refine aw_pass  (by kernel_rfl) ?_
      refine aw_pass  (by kernel_rfl) ?_
      refine aw_val (v := .bool false) (.bool false) (by kernel_rfl) (by kernel_rfl) (rfl) ?_
      refine aw_val (v := .bool false) (.bool false) (by kernel_rfl) (by kernel_rfl) (rfl) ?_
      refine aw_pass  (by kernel_rfl) ?_
      refine aw_pass  (by kernel_rfl) ?_
      refine aw_pass  (by kernel_rfl) ?_
      refine aw_val (v := .bool false) (.bool false) (by kernel_rfl) (by kernel_rfl) (rfl) ?_
      refine aw_nil ?_
      refine aw_n_then ?_
      refine aw_no (by kernel_rfl) ?_
      refine aw_skip0 ?_
      refine aw_n_then ?_
      refine aw_seq ?_
      refine aw_reg ?_
      refine aw_call 36 #[] (.bool true) HL119 (by kernel_rfl) (by kernel_rfl) (shown_any w118 (hkd.loc HL119)) ?_
      intro w151 HL152
      clear HL119
      refine aw_val (v := .bool true) (.bool true) (by kernel_rfl) (by kernel_rfl) (rfl) ?_
      refine aw_nil ?_
      refine aw_n_then ?_
      refine aw_ret ?_
      refine aw_end (.bool true) rfl (by kernel_rfl) ?_
      exact ⟨rfl, HL152.bel⟩

end Go.Proofs.YtmbcejldifobnaaDoor.Ln
