import Derived.Test.YtmbcejldifobnaaDoorC16
namespace Go.Proofs.YtmbcejldifobnaaDoor.Ln
open Go.RowKit Tp Sp Pc
def winB (x y u v : Int) : Bool := decide (u ≤ x) && decide (y ≤ v)
theorem winB_iff {x y u v : Int} : winB x y u v = true ↔ u ≤ x ∧ y ≤ v := by unfold winB; rw [Bool.and_eq_true, decide_eq_true_eq, decide_eq_true_eq]
theorem winB_no {x y u v : Int} (h : winB x y u v = false) : ¬ (u ≤ x ∧ y ≤ v) := fun g => by rw [winB_iff.2 g] at h; cases h
set_option maxRecDepth 100000 in
set_option maxHeartbeats 2000000 in
theorem within8_any (x y u v : Int) (w : World) : Calls Tryd.prog 35 #[.agg #[.int .i64 x, .int .i64 y], .agg #[.int .i64 u, .int .i64 v]] w fun r w' => r = .returned (.bool (winB x y u v)) ∧ Below w.heap.size w w' := by
  refine calls_of_wp Tryd.func35 rfl ?_
  refine Boxw.out (ax_in ?_)
  have HB : Array.size ((#[.agg #[.int .i64 x, .int .i64 y], .agg #[.int .i64 u, .int .i64 v]] : Array Value) ++ Array.replicate (Func.ntmps Tryd.f35 - Array.size (#[.agg #[.int .i64 x, .int .i64 y], .agg #[.int .i64 u, .int .i64 v]] : Array Value)) undef) = 17 := by kernel_rfl
  have HL0 := Loc.start w
  refine aw_seq ?_
  refine aw_reg ?_
  refine ax_new 55 [.int .i64 x, .int .i64 y] HB HL0 (by kernel_rfl) (by kernel_rfl) ?_
  intro g1 w2 HL3
  clear HL0
  refine ax_new 55 [.int .i64 u, .int .i64 v] HB HL3 (by kernel_rfl) (by kernel_rfl) ?_
  intro g4 w5 HL6
  clear HL3
  refine ax_val (v := .bool false) (.bool false) HB (by kernel_rfl) (by kernel_rfl) (rfl) ?_
  refine aw_nil ?_
  refine aw_n_then ?_
  refine aw_seq ?_
  refine aw_reg ?_
  refine ax_val (v := .pointer (some ⟨g1, 0, none⟩)) (.pointer (some ⟨g1, 0, none⟩)) HB (by kernel_rfl) (by kernel_rfl) (rfl) ?_
  refine ax_load 2 (.tmp 5) 1 g1 0 55 [.int .i64 x, .int .i64 y] (.int .i64 x) _ HB HL6 (by kernel_rfl) rfl (by kernel_rfl) rfl rfl Tryd.underlying2 rfl ?_
  refine ax_val (v := .pointer (some ⟨g4, 0, none⟩)) (.pointer (some ⟨g4, 0, none⟩)) HB (by kernel_rfl) (by kernel_rfl) (rfl) ?_
  refine ax_load 2 (.tmp 7) 0 g4 0 55 [.int .i64 u, .int .i64 v] (.int .i64 u) _ HB HL6 (by kernel_rfl) rfl (by kernel_rfl) rfl rfl Tryd.underlying2 rfl ?_
  refine ax_fork (decide (u ≤ x)) HB (by kernel_rfl) (by kernel_rfl) ?_ ?_
  · intro f7
    have k7 := of_decide_eq_true f7
    refine ax_val (v := .bool true) (.bool true) HB (by kernel_rfl) (by kernel_rfl) (rfl) ?_
    refine ax_val (v := .pointer (some ⟨g1, 1, none⟩)) (.pointer (some ⟨g1, 1, none⟩)) HB (by kernel_rfl) (by kernel_rfl) (rfl) ?_
    refine ax_load 2 (.tmp 11) 1 g1 1 55 [.int .i64 x, .int .i64 y] (.int .i64 y) _ HB HL6 (by kernel_rfl) rfl (by kernel_rfl) rfl rfl Tryd.underlying2 rfl ?_
    refine ax_val (v := .pointer (some ⟨g4, 1, none⟩)) (.pointer (some ⟨g4, 1, none⟩)) HB (by kernel_rfl) (by kernel_rfl) (rfl) ?_
    refine ax_load 2 (.tmp 13) 0 g4 1 55 [.int .i64 u, .int .i64 v] (.int .i64 v) _ HB HL6 (by kernel_rfl) rfl (by kernel_rfl) rfl rfl Tryd.underlying2 rfl ?_
    refine ax_fork (decide (y ≤ v)) HB (by kernel_rfl) (by kernel_rfl) ?_ ?_
    · intro f9
      have k9 := of_decide_eq_true f9
      refine ax_val (v := .bool true) (.bool true) HB (by kernel_rfl) (by kernel_rfl) (rfl) ?_
      refine ax_val (v := .bool true) (.bool true) HB (by kernel_rfl) (by kernel_rfl) (rfl) ?_
      refine aw_nil ?_
      refine aw_n_then ?_
      refine aw_ret ?_
      refine aw_end (.bool true) (by kernel_rfl) (by kernel_rfl) ?_
      refine ⟨?_, HL6.bel⟩
      unfold winB; simp only [f7, f9]; rfl
    · intro f10
      have k10 := of_decide_eq_false f10
      refine ax_val (v := .bool false) (.bool false) HB (by kernel_rfl) (by kernel_rfl) (rfl) ?_
      refine ax_val (v := .bool false) (.bool false) HB (by kernel_rfl) (by kernel_rfl) (rfl) ?_
      refine aw_nil ?_
      refine aw_n_then ?_
      refine aw_ret ?_
      refine aw_end (.bool false) (by kernel_rfl) (by kernel_rfl) ?_
      refine ⟨?_, HL6.bel⟩
      unfold winB; simp only [f7, f10]; rfl
  · intro f8
    have k8 := of_decide_eq_false f8
    refine ax_val (v := .bool false) (.bool false) HB (by kernel_rfl) (by kernel_rfl) (rfl) ?_
    refine ax_pass  HB (by kernel_rfl) ?_
    refine ax_pass  HB (by kernel_rfl) ?_
    refine ax_pass  HB (by kernel_rfl) ?_
    refine ax_pass  HB (by kernel_rfl) ?_
    refine ax_pass  HB (by kernel_rfl) ?_
    refine ax_val (v := .bool false) (.bool false) HB (by kernel_rfl) (by kernel_rfl) (rfl) ?_
    refine ax_val (v := .bool false) (.bool false) HB (by kernel_rfl) (by kernel_rfl) (rfl) ?_
    refine aw_nil ?_
    refine aw_n_then ?_
    refine aw_ret ?_
    refine aw_end (.bool false) (by kernel_rfl) (by kernel_rfl) ?_
    refine ⟨?_, HL6.bel⟩
    unfold winB; simp only [f8]; rfl

set_option maxRecDepth 100000 in
set_option maxHeartbeats 2000000 in
theorem number8_any (n : Int) (w : World) : Calls Tryd.prog 38 #[.int .i64 n] w fun r w' => r = .returned (.agg #[.int .i64 n, .int .i64 n]) ∧ Below w.heap.size w w' := by
  refine calls_of_wp Tryd.func38 rfl ?_
  refine Boxw.out (ax_in ?_)
  have HB : Array.size ((#[.int .i64 n] : Array Value) ++ Array.replicate (Func.ntmps Tryd.f38 - Array.size (#[.int .i64 n] : Array Value)) undef) = 6 := by kernel_rfl
  have HL0 := Loc.start w
  refine aw_seq ?_
  refine aw_reg ?_
  refine ax_new 55 [.int .i64 0, .int .i64 0] HB HL0 (by kernel_rfl) (by kernel_rfl) ?_
  intro g1 w2 HL3
  clear HL0
  refine aw_nil ?_
  refine aw_n_then ?_
  refine aw_seq ?_
  refine aw_reg ?_
  refine ax_val (v := .int .i64 n) (.int .i64 n) HB (by kernel_rfl) (by kernel_rfl) (rfl) ?_
  refine ax_val (v := .int .i64 n) (.int .i64 n) HB (by kernel_rfl) (by kernel_rfl) (rfl) ?_
  refine ax_val (v := .agg #[.int .i64 n, .int .i64 n]) (.agg #[.int .i64 n, .int .i64 n]) HB (by kernel_rfl) (by kernel_rfl) (rfl) ?_
  refine ax_store 55 (.tmp 2) (.tmp 5) 0 g1 0 55 [.int .i64 0, .int .i64 0] [.int .i64 n, .int .i64 n] [.int .i64 n, .int .i64 n] [(g1, 55, [.int .i64 n, .int .i64 n])] HB HL3 (by kernel_rfl) rfl (by kernel_rfl) (by kernel_rfl) rfl (by kernel_rfl) (by kernel_rfl) (Nat.le_of_ble_eq_true rfl) rfl rfl ?_
  intro w4 HL5
  clear HL3
  refine aw_nil ?_
  refine aw_n_then ?_
  refine aw_ret ?_
  refine aw_end (.agg #[.int .i64 n, .int .i64 n]) (by kernel_rfl) (res_c Tryd.results38 (by kernel_rfl) (loc_var HL5 (i := 0) rfl Tryd.underlying55 rfl (by kernel_rfl))) ?_
  exact ⟨rfl, HL5.bel⟩

set_option maxRecDepth 100000 in
set_option maxHeartbeats 2000000 in
theorem example_any (w : World) : Calls Tryd.prog 86 #[] w fun r w' => r = .returned (.agg #[.int .i64 1, .int .i64 50000, .int .i64 50000, .int .i64 40000, .int .i64 10000]) ∧ Below w.heap.size w w' := by
  refine calls_of_wp Tryd.func86 rfl ?_
  refine Boxw.out (ax_in ?_)
  have HB : Array.size ((#[] : Array Value) ++ Array.replicate (Func.ntmps Tryd.f86 - Array.size (#[] : Array Value)) undef) = 2 := by kernel_rfl
  have HL0 := Loc.start w
  refine aw_seq ?_
  refine aw_reg ?_
  refine ax_new 64 [.int .i64 0, .int .i64 0, .int .i64 0, .int .i64 0, .int .i64 0] HB HL0 (by kernel_rfl) (by kernel_rfl) ?_
  intro g1 w2 HL3
  clear HL0
  refine aw_nil ?_
  refine aw_n_then ?_
  refine aw_seq ?_
  refine aw_reg ?_
  refine ax_val (v := .agg #[.int .i64 1, .int .i64 50000, .int .i64 50000, .int .i64 40000, .int .i64 10000]) (.agg #[.int .i64 1, .int .i64 50000, .int .i64 50000, .int .i64 40000, .int .i64 10000]) HB (by kernel_rfl) (by kernel_rfl) (rfl) ?_
  refine ax_store 64 (.tmp 0) (.tmp 1) 0 g1 0 64 [.int .i64 0, .int .i64 0, .int .i64 0, .int .i64 0, .int .i64 0] [.int .i64 1, .int .i64 50000, .int .i64 50000, .int .i64 40000, .int .i64 10000] [.int .i64 1, .int .i64 50000, .int .i64 50000, .int .i64 40000, .int .i64 10000] [(g1, 64, [.int .i64 1, .int .i64 50000, .int .i64 50000, .int .i64 40000, .int .i64 10000])] HB HL3 (by kernel_rfl) rfl (by kernel_rfl) (by kernel_rfl) rfl (by kernel_rfl) (by kernel_rfl) (Nat.le_of_ble_eq_true rfl) rfl rfl ?_
  intro w4 HL5
  clear HL3
  refine aw_nil ?_
  refine aw_n_then ?_
  refine aw_ret ?_
  refine aw_end (.agg #[.int .i64 1, .int .i64 50000, .int .i64 50000, .int .i64 40000, .int .i64 10000]) (by kernel_rfl) (res_c Tryd.results86 (by kernel_rfl) (loc_var HL5 (i := 0) rfl Tryd.underlying64 rfl (by kernel_rfl))) ?_
  exact ⟨rfl, HL5.bel⟩

theorem ex_ok : bdB 1 50000 50000 40000 10000 = true := by decide
theorem ex_i64 (n : Int) (h : n = 440000 ∨ n = 289270 ∨ n = 20000000) : I64 n ∧ I64 n := by unfold I64; omega
set_option maxRecDepth 100000 in
set_option maxHeartbeats 2000000 in
theorem shown_any (w : World) (hkd : KdL w) : Calls Tryd.prog 36 #[] w fun r w' => r = .returned (.bool true) ∧ Below w.heap.size w w' := by
  refine calls_of_wp Tryd.func36 rfl ?_
  refine Boxw.out (ax_in ?_)
  have HB : Array.size ((#[] : Array Value) ++ Array.replicate (Func.ntmps Tryd.f36 - Array.size (#[] : Array Value)) undef) = 73 := by kernel_rfl
  have HL0 := Loc.start w
  refine aw_seq ?_
  refine aw_reg ?_
  refine ax_val (v := .bool false) (.bool false) HB (by kernel_rfl) (by kernel_rfl) (rfl) ?_
  refine aw_nil ?_
  refine aw_n_then ?_
  refine aw_seq ?_
  refine aw_reg ?_
  refine ax_call 86 #[] (.agg #[.int .i64 1, .int .i64 50000, .int .i64 50000, .int .i64 40000, .int .i64 10000]) HB HL0 (by kernel_rfl) (by kernel_rfl) (example_any w) ?_
  intro w1 HL2
  clear HL0
  refine ax_call 85 #[.agg #[.int .i64 1, .int .i64 50000, .int .i64 50000, .int .i64 40000, .int .i64 10000]] (.tuple #[.agg #[.int .i64 71875, .int .i64 71875], .agg #[.int .i64 15332, .int .i64 15333], .int .i64 0]) HB HL2 (by kernel_rfl) (by kernel_rfl) ((by have h0 := Correction_ok 1 50000 50000 40000 10000 w1 (hkd.loc HL2) ex_ok; rw [ex_mouth, ex_end] at h0; exact h0)) ?_
  intro w3 HL4
  clear HL2
  refine ax_val (v := .tuple #[.agg #[.int .i64 71875, .int .i64 71875], .agg #[.int .i64 15332, .int .i64 15333], .int .i64 0]) (.tuple #[.agg #[.int .i64 71875, .int .i64 71875], .agg #[.int .i64 15332, .int .i64 15333], .int .i64 0]) HB (by kernel_rfl) (by kernel_rfl) (rfl) ?_
  refine ax_val (v := .agg #[.int .i64 71875, .int .i64 71875]) (.agg #[.int .i64 71875, .int .i64 71875]) HB (by kernel_rfl) (by kernel_rfl) (rfl) ?_
  refine ax_val (v := .agg #[.int .i64 15332, .int .i64 15333]) (.agg #[.int .i64 15332, .int .i64 15333]) HB (by kernel_rfl) (by kernel_rfl) (rfl) ?_
  refine ax_val (v := .int .i64 0) (.int .i64 0) HB (by kernel_rfl) (by kernel_rfl) (rfl) ?_
  refine ax_new 55 [.int .i64 0, .int .i64 0] HB HL4 (by kernel_rfl) (by kernel_rfl) ?_
  intro g5 w6 HL7
  clear HL4
  refine ax_new 55 [.int .i64 0, .int .i64 0] HB HL7 (by kernel_rfl) (by kernel_rfl) ?_
  intro g8 w9 HL10
  clear HL7
  refine ax_store 55 (.tmp 1) (.tmp 13) 1 g5 0 55 [.int .i64 0, .int .i64 0] [.int .i64 71875, .int .i64 71875] [.int .i64 71875, .int .i64 71875] [(g8, 55, [.int .i64 0, .int .i64 0]), (g5, 55, [.int .i64 71875, .int .i64 71875])] HB HL10 (by kernel_rfl) rfl (by kernel_rfl) (by kernel_rfl) rfl (by kernel_rfl) (by kernel_rfl) (Nat.le_of_ble_eq_true rfl) rfl rfl ?_
  intro w11 HL12
  clear HL10
  refine ax_store 55 (.tmp 2) (.tmp 14) 0 g8 0 55 [.int .i64 0, .int .i64 0] [.int .i64 15332, .int .i64 15333] [.int .i64 15332, .int .i64 15333] [(g8, 55, [.int .i64 15332, .int .i64 15333]), (g5, 55, [.int .i64 71875, .int .i64 71875])] HB HL12 (by kernel_rfl) rfl (by kernel_rfl) (by kernel_rfl) rfl (by kernel_rfl) (by kernel_rfl) (Nat.le_of_ble_eq_true rfl) rfl rfl ?_
  intro w13 HL14
  clear HL12
  refine ax_val (v := .int .i64 0) (.int .i64 0) HB (by kernel_rfl) (by kernel_rfl) (rfl) ?_
  refine aw_nil ?_
  refine aw_n_then ?_
  refine aw_seq ?_
  refine aw_reg ?_
  refine ax_call 86 #[] (.agg #[.int .i64 1, .int .i64 50000, .int .i64 50000, .int .i64 40000, .int .i64 10000]) HB HL14 (by kernel_rfl) (by kernel_rfl) (example_any w13) ?_
  intro w15 HL16
  clear HL14
  refine ax_call 38 #[.int .i64 440000] (.agg #[.int .i64 440000, .int .i64 440000]) HB HL16 (by kernel_rfl) (by kernel_rfl) (number8_any 440000 w15) ?_
  intro w17 HL18
  clear HL16
  refine ax_call 33 #[.agg #[.int .i64 1, .int .i64 50000, .int .i64 50000, .int .i64 40000, .int .i64 10000], .agg #[.int .i64 440000, .int .i64 440000], .int .i64 0] (.tuple #[.agg #[.int .i64 289269, .int .i64 289271], .int .i64 0]) HB HL18 (by kernel_rfl) (by kernel_rfl) ((by have h0 := Length_any 1 50000 50000 40000 10000 440000 440000 0 w17 (hkd.loc HL18) (ex_i64 440000 (by decide)); rw [spd_zero, ex_len1] at h0; exact h0)) ?_
  intro w19 HL20
  clear HL18
  refine ax_val (v := .tuple #[.agg #[.int .i64 289269, .int .i64 289271], .int .i64 0]) (.tuple #[.agg #[.int .i64 289269, .int .i64 289271], .int .i64 0]) HB (by kernel_rfl) (by kernel_rfl) (rfl) ?_
  refine ax_val (v := .agg #[.int .i64 289269, .int .i64 289271]) (.agg #[.int .i64 289269, .int .i64 289271]) HB (by kernel_rfl) (by kernel_rfl) (rfl) ?_
  refine ax_val (v := .int .i64 0) (.int .i64 0) HB (by kernel_rfl) (by kernel_rfl) (rfl) ?_
  refine ax_new 55 [.int .i64 0, .int .i64 0] HB HL20 (by kernel_rfl) (by kernel_rfl) ?_
  intro g21 w22 HL23
  clear HL20
  refine ax_store 55 (.tmp 4) (.tmp 20) 0 g21 0 55 [.int .i64 0, .int .i64 0] [.int .i64 289269, .int .i64 289271] [.int .i64 289269, .int .i64 289271] [(g21, 55, [.int .i64 289269, .int .i64 289271]), (g8, 55, [.int .i64 15332, .int .i64 15333]), (g5, 55, [.int .i64 71875, .int .i64 71875])] HB HL23 (by kernel_rfl) rfl (by kernel_rfl) (by kernel_rfl) rfl (by kernel_rfl) (by kernel_rfl) (Nat.le_of_ble_eq_true rfl) rfl rfl ?_
  intro w24 HL25
  clear HL23
  refine ax_val (v := .int .i64 0) (.int .i64 0) HB (by kernel_rfl) (by kernel_rfl) (rfl) ?_
  refine aw_nil ?_
  refine aw_n_then ?_
  refine aw_seq ?_
  refine aw_reg ?_
  refine ax_call 86 #[] (.agg #[.int .i64 1, .int .i64 50000, .int .i64 50000, .int .i64 40000, .int .i64 10000]) HB HL25 (by kernel_rfl) (by kernel_rfl) (example_any w24) ?_
  intro w26 HL27
  clear HL25
  refine ax_call 38 #[.int .i64 289270] (.agg #[.int .i64 289270, .int .i64 289270]) HB HL27 (by kernel_rfl) (by kernel_rfl) (number8_any 289270 w26) ?_
  intro w28 HL29
  clear HL27
  refine ax_call 34 #[.agg #[.int .i64 1, .int .i64 50000, .int .i64 50000, .int .i64 40000, .int .i64 10000], .agg #[.int .i64 289270, .int .i64 289270], .int .i64 0] (.tuple #[.agg #[.int .i64 439999, .int .i64 440001], .int .i64 0]) HB HL29 (by kernel_rfl) (by kernel_rfl) ((by have h0 := Pitch_any 1 50000 50000 40000 10000 289270 289270 0 w28 (hkd.loc HL29) (ex_i64 289270 (by decide)); rw [spd_zero, ex_pit] at h0; exact h0)) ?_
  intro w30 HL31
  clear HL29
  refine ax_val (v := .tuple #[.agg #[.int .i64 439999, .int .i64 440001], .int .i64 0]) (.tuple #[.agg #[.int .i64 439999, .int .i64 440001], .int .i64 0]) HB (by kernel_rfl) (by kernel_rfl) (rfl) ?_
  refine ax_val (v := .agg #[.int .i64 439999, .int .i64 440001]) (.agg #[.int .i64 439999, .int .i64 440001]) HB (by kernel_rfl) (by kernel_rfl) (rfl) ?_
  refine ax_val (v := .int .i64 0) (.int .i64 0) HB (by kernel_rfl) (by kernel_rfl) (rfl) ?_
  refine ax_new 55 [.int .i64 0, .int .i64 0] HB HL31 (by kernel_rfl) (by kernel_rfl) ?_
  intro g32 w33 HL34
  clear HL31
  refine ax_store 55 (.tmp 6) (.tmp 26) 0 g32 0 55 [.int .i64 0, .int .i64 0] [.int .i64 439999, .int .i64 440001] [.int .i64 439999, .int .i64 440001] [(g32, 55, [.int .i64 439999, .int .i64 440001]), (g21, 55, [.int .i64 289269, .int .i64 289271]), (g8, 55, [.int .i64 15332, .int .i64 15333]), (g5, 55, [.int .i64 71875, .int .i64 71875])] HB HL34 (by kernel_rfl) rfl (by kernel_rfl) (by kernel_rfl) rfl (by kernel_rfl) (by kernel_rfl) (Nat.le_of_ble_eq_true rfl) rfl rfl ?_
  intro w35 HL36
  clear HL34
  refine ax_val (v := .int .i64 0) (.int .i64 0) HB (by kernel_rfl) (by kernel_rfl) (rfl) ?_
  refine aw_nil ?_
  refine aw_n_then ?_
  refine aw_seq ?_
  refine aw_reg ?_
  refine ax_call 86 #[] (.agg #[.int .i64 1, .int .i64 50000, .int .i64 50000, .int .i64 40000, .int .i64 10000]) HB HL36 (by kernel_rfl) (by kernel_rfl) (example_any w35) ?_
  intro w37 HL38
  clear HL36
  refine ax_call 38 #[.int .i64 20000000] (.agg #[.int .i64 20000000, .int .i64 20000000]) HB HL38 (by kernel_rfl) (by kernel_rfl) (number8_any 20000000 w37) ?_
  intro w39 HL40
  clear HL38
  refine ax_call 33 #[.agg #[.int .i64 1, .int .i64 50000, .int .i64 50000, .int .i64 40000, .int .i64 10000], .agg #[.int .i64 20000000, .int .i64 20000000], .int .i64 0] (.tuple #[.agg #[.int .i64 0, .int .i64 0], .int .i64 7]) HB HL40 (by kernel_rfl) (by kernel_rfl) ((by have h0 := Length_any 1 50000 50000 40000 10000 20000000 20000000 0 w39 (hkd.loc HL40) (ex_i64 20000000 (by decide)); rw [spd_zero, ex_len2] at h0; exact h0)) ?_
  intro w41 HL42
  clear HL40
  refine ax_val (v := .tuple #[.agg #[.int .i64 0, .int .i64 0], .int .i64 7]) (.tuple #[.agg #[.int .i64 0, .int .i64 0], .int .i64 7]) HB (by kernel_rfl) (by kernel_rfl) (rfl) ?_
  refine ax_val (v := .agg #[.int .i64 0, .int .i64 0]) (.agg #[.int .i64 0, .int .i64 0]) HB (by kernel_rfl) (by kernel_rfl) (rfl) ?_
  refine ax_val (v := .int .i64 7) (.int .i64 7) HB (by kernel_rfl) (by kernel_rfl) (rfl) ?_
  refine ax_new 55 [.int .i64 0, .int .i64 0] HB HL42 (by kernel_rfl) (by kernel_rfl) ?_
  intro g43 w44 HL45
  clear HL42
  refine ax_store 55 (.tmp 8) (.tmp 32) 0 g43 0 55 [.int .i64 0, .int .i64 0] [.int .i64 0, .int .i64 0] [.int .i64 0, .int .i64 0] [(g43, 55, [.int .i64 0, .int .i64 0]), (g32, 55, [.int .i64 439999, .int .i64 440001]), (g21, 55, [.int .i64 289269, .int .i64 289271]), (g8, 55, [.int .i64 15332, .int .i64 15333]), (g5, 55, [.int .i64 71875, .int .i64 71875])] HB HL45 (by kernel_rfl) rfl (by kernel_rfl) (by kernel_rfl) rfl (by kernel_rfl) (by kernel_rfl) (Nat.le_of_ble_eq_true rfl) rfl rfl ?_
  intro w46 HL47
  clear HL45
  refine ax_val (v := .int .i64 7) (.int .i64 7) HB (by kernel_rfl) (by kernel_rfl) (rfl) ?_
  refine aw_nil ?_
  refine aw_n_then ?_
  refine aw_seq ?_
  refine ad_start [(g43, 55, [.int .i64 0, .int .i64 0]), (g32, 55, [.int .i64 439999, .int .i64 440001]), (g21, 55, [.int .i64 289269, .int .i64 289271]), (g8, 55, [.int .i64 15332, .int .i64 15333]), (g5, 55, [.int .i64 71875, .int .i64 71875])] HL47 (by kernel_rfl) (List.Sublist.cons_cons _ (List.Sublist.cons_cons _ (List.Sublist.cons_cons _ (List.Sublist.cons_cons _ (List.Sublist.cons_cons _ List.Sublist.slnil))))) rfl ?_
  intro w49 HL48
  clear HL47
  refine ay_val (v := .int .i64 0) 0 (.int .i64 0) HB rfl (by kernel_rfl) (by kernel_rfl) (by kernel_rfl) (fun _ _ _ h => h) (by kernel_rfl) (fun _ _ => by kernel_rfl) (rfl) ?_
  refine ay_val (v := .bool true) 1 (.bool true) HB rfl (by kernel_rfl) (by kernel_rfl) (by kernel_rfl) (fun _ _ _ h => h) (by kernel_rfl) (fun _ _ => by kernel_rfl) (rfl) ?_
  refine ay_val (v := .bool true) 2 (.bool true) HB rfl (by kernel_rfl) (by kernel_rfl) (by kernel_rfl) (fun _ _ _ h => h) (by kernel_rfl) (fun _ _ => by kernel_rfl) (rfl) ?_
  refine ay_val (v := .int .i64 0) 3 (.int .i64 0) HB rfl (by kernel_rfl) (by kernel_rfl) (by kernel_rfl) (fun _ _ _ h => h) (by kernel_rfl) (fun _ _ => by kernel_rfl) (rfl) ?_
  refine ay_val (v := .bool true) 4 (.bool true) HB rfl (by kernel_rfl) (by kernel_rfl) (by kernel_rfl) (fun _ _ _ h => h) (by kernel_rfl) (fun _ _ => by kernel_rfl) (rfl) ?_
  refine ay_val (v := .bool true) 5 (.bool true) HB rfl (by kernel_rfl) (by kernel_rfl) (by kernel_rfl) (fun _ _ _ h => h) (by kernel_rfl) (fun _ _ => by kernel_rfl) (rfl) ?_
  refine ay_val (v := .bool true) 6 (.bool true) HB rfl (by kernel_rfl) (by kernel_rfl) (by kernel_rfl) (fun _ _ _ h => h) (by kernel_rfl) (fun _ _ => by kernel_rfl) (rfl) ?_
  refine ay_val (v := .int .i64 0) 7 (.int .i64 0) HB rfl (by kernel_rfl) (by kernel_rfl) (by kernel_rfl) (fun _ _ _ h => h) (by kernel_rfl) (fun _ _ => by kernel_rfl) (rfl) ?_
  refine ay_val (v := .bool true) 8 (.bool true) HB rfl (by kernel_rfl) (by kernel_rfl) (by kernel_rfl) (fun _ _ _ h => h) (by kernel_rfl) (fun _ _ => by kernel_rfl) (rfl) ?_
  refine ay_val (v := .bool true) 9 (.bool true) HB rfl (by kernel_rfl) (by kernel_rfl) (by kernel_rfl) (fun _ _ _ h => h) (by kernel_rfl) (fun _ _ => by kernel_rfl) (rfl) ?_
  refine ay_val (v := .bool true) 10 (.bool true) HB rfl (by kernel_rfl) (by kernel_rfl) (by kernel_rfl) (fun _ _ _ h => h) (by kernel_rfl) (fun _ _ => by kernel_rfl) (rfl) ?_
  refine ay_val (v := .int .i64 7) 11 (.int .i64 7) HB rfl (by kernel_rfl) (by kernel_rfl) (by kernel_rfl) (fun _ _ _ h => h) (by kernel_rfl) (fun _ _ => by kernel_rfl) (rfl) ?_
  refine ay_val (v := .bool true) 12 (.bool true) HB rfl (by kernel_rfl) (by kernel_rfl) (by kernel_rfl) (fun _ _ _ h => h) (by kernel_rfl) (fun _ _ => by kernel_rfl) (rfl) ?_
  refine ay_val (v := .bool true) 13 (.bool true) HB rfl (by kernel_rfl) (by kernel_rfl) (by kernel_rfl) (fun _ _ _ h => h) (by kernel_rfl) (fun _ _ => by kernel_rfl) (rfl) ?_
  refine ay_val (v := .bool true) 14 (.bool true) HB rfl (by kernel_rfl) (by kernel_rfl) (by kernel_rfl) (fun _ _ _ h => h) (by kernel_rfl) (fun _ _ => by kernel_rfl) (rfl) ?_
  refine ay_mid 15 55 (.tmp 1) 4 g5 0 55 [.int .i64 71875, .int .i64 71875] [.int .i64 71875, .int .i64 71875] _ HB rfl (by kernel_rfl) (by kernel_rfl) (by kernel_rfl) (fun _ _ _ h => h) (by kernel_rfl) rfl (by kernel_rfl) rfl rfl Tryd.underlying55 rfl (by kernel_rfl) ?_
  refine ay_call 16 38 #[.int .i64 71875] (.agg #[.int .i64 71875, .int .i64 71875]) HB rfl (by kernel_rfl) (by kernel_rfl) (by kernel_rfl) (fun _ _ _ h => h) (by kernel_rfl) (fun _ => by kernel_rfl) (fun u hu => number8_any 71875 u) ?_
  refine ay_val (v := .bool true) 17 (.bool true) HB rfl (by kernel_rfl) (by kernel_rfl) (by kernel_rfl) (fun _ _ _ h => h) (by kernel_rfl) (fun _ _ => by kernel_rfl) (rfl) ?_
  refine ay_val (v := .bool true) 18 (.bool true) HB rfl (by kernel_rfl) (by kernel_rfl) (by kernel_rfl) (fun _ _ _ h => h) (by kernel_rfl) (fun _ _ => by kernel_rfl) (rfl) ?_
  refine ay_val (v := .bool true) 19 (.bool true) HB rfl (by kernel_rfl) (by kernel_rfl) (by kernel_rfl) (fun _ _ _ h => h) (by kernel_rfl) (fun _ _ => by kernel_rfl) (rfl) ?_
  refine ay_mid 20 55 (.tmp 2) 3 g8 0 55 [.int .i64 15332, .int .i64 15333] [.int .i64 15332, .int .i64 15333] _ HB rfl (by kernel_rfl) (by kernel_rfl) (by kernel_rfl) (fun _ _ _ h => h) (by kernel_rfl) rfl (by kernel_rfl) rfl rfl Tryd.underlying55 rfl (by kernel_rfl) ?_
  refine ay_val (v := .agg #[.int .i64 15332, .int .i64 15333]) 21 (.agg #[.int .i64 15332, .int .i64 15333]) HB rfl (by kernel_rfl) (by kernel_rfl) (by kernel_rfl) (fun _ _ _ h => h) (by kernel_rfl) (fun _ _ => by kernel_rfl) (rfl) ?_
  refine ay_val (v := .bool true) 22 (.bool true) HB rfl (by kernel_rfl) (by kernel_rfl) (by kernel_rfl) (fun _ _ _ h => h) (by kernel_rfl) (fun _ _ => by kernel_rfl) (rfl) ?_
  refine ay_val (v := .bool true) 23 (.bool true) HB rfl (by kernel_rfl) (by kernel_rfl) (by kernel_rfl) (fun _ _ _ h => h) (by kernel_rfl) (fun _ _ => by kernel_rfl) (rfl) ?_
  refine ay_val (v := .bool true) 24 (.bool true) HB rfl (by kernel_rfl) (by kernel_rfl) (by kernel_rfl) (fun _ _ _ h => h) (by kernel_rfl) (fun _ _ => by kernel_rfl) (rfl) ?_
  refine ay_mid 25 55 (.tmp 4) 2 g21 0 55 [.int .i64 289269, .int .i64 289271] [.int .i64 289269, .int .i64 289271] _ HB rfl (by kernel_rfl) (by kernel_rfl) (by kernel_rfl) (fun _ _ _ h => h) (by kernel_rfl) rfl (by kernel_rfl) rfl rfl Tryd.underlying55 rfl (by kernel_rfl) ?_
  refine ay_val (v := .agg #[.int .i64 289269, .int .i64 289271]) 26 (.agg #[.int .i64 289269, .int .i64 289271]) HB rfl (by kernel_rfl) (by kernel_rfl) (by kernel_rfl) (fun _ _ _ h => h) (by kernel_rfl) (fun _ _ => by kernel_rfl) (rfl) ?_
  refine ay_val (v := .bool true) 27 (.bool true) HB rfl (by kernel_rfl) (by kernel_rfl) (by kernel_rfl) (fun _ _ _ h => h) (by kernel_rfl) (fun _ _ => by kernel_rfl) (rfl) ?_
  refine ay_val (v := .bool true) 28 (.bool true) HB rfl (by kernel_rfl) (by kernel_rfl) (by kernel_rfl) (fun _ _ _ h => h) (by kernel_rfl) (fun _ _ => by kernel_rfl) (rfl) ?_
  refine ay_val (v := .bool true) 29 (.bool true) HB rfl (by kernel_rfl) (by kernel_rfl) (by kernel_rfl) (fun _ _ _ h => h) (by kernel_rfl) (fun _ _ => by kernel_rfl) (rfl) ?_
  refine ay_val (v := .pointer (some ⟨g32, 0, none⟩)) 30 (.pointer (some ⟨g32, 0, none⟩)) HB rfl (by kernel_rfl) (by kernel_rfl) (by kernel_rfl) (fun _ _ _ h => h) (by kernel_rfl) (fun _ _ => by kernel_rfl) (rfl) ?_
  refine ay_load 31 2 (.tmp 64) 1 g32 0 55 [.int .i64 439999, .int .i64 440001] (.int .i64 439999) _ HB rfl (by kernel_rfl) (by kernel_rfl) (by kernel_rfl) (fun _ _ _ h => h) (by kernel_rfl) rfl (by kernel_rfl) rfl rfl Tryd.underlying2 rfl ?_
  refine ay_val (v := .bool true) 32 (.bool true) HB rfl (by kernel_rfl) (by kernel_rfl) (by kernel_rfl) (fun _ _ _ h => h) (by kernel_rfl) (fun _ _ => by kernel_rfl) (rfl) ?_
  refine ay_val (v := .bool true) 33 (.bool true) HB rfl (by kernel_rfl) (by kernel_rfl) (by kernel_rfl) (fun _ _ _ h => h) (by kernel_rfl) (fun _ _ => by kernel_rfl) (rfl) ?_
  refine ay_val (v := .bool true) 34 (.bool true) HB rfl (by kernel_rfl) (by kernel_rfl) (by kernel_rfl) (fun _ _ _ h => h) (by kernel_rfl) (fun _ _ => by kernel_rfl) (rfl) ?_
  refine ay_val (v := .pointer (some ⟨g32, 1, none⟩)) 35 (.pointer (some ⟨g32, 1, none⟩)) HB rfl (by kernel_rfl) (by kernel_rfl) (by kernel_rfl) (fun _ _ _ h => h) (by kernel_rfl) (fun _ _ => by kernel_rfl) (rfl) ?_
  refine ay_load 36 2 (.tmp 69) 1 g32 1 55 [.int .i64 439999, .int .i64 440001] (.int .i64 440001) _ HB rfl (by kernel_rfl) (by kernel_rfl) (by kernel_rfl) (fun _ _ _ h => h) (by kernel_rfl) rfl (by kernel_rfl) rfl rfl Tryd.underlying2 rfl ?_
  refine ay_val (v := .bool true) 37 (.bool true) HB rfl (by kernel_rfl) (by kernel_rfl) (by kernel_rfl) (fun _ _ _ h => h) (by kernel_rfl) (fun _ _ => by kernel_rfl) (rfl) ?_
  refine ay_val (v := .bool true) 38 (.bool true) HB rfl (by kernel_rfl) (by kernel_rfl) (by kernel_rfl) (fun _ _ _ h => h) (by kernel_rfl) (fun _ _ => by kernel_rfl) (rfl) ?_
  refine ay_val (v := .bool true) 39 (.bool true) HB rfl (by kernel_rfl) (by kernel_rfl) (by kernel_rfl) (fun _ _ _ h => h) (by kernel_rfl) (fun _ _ => by kernel_rfl) (rfl) ?_
  refine ad_done HL48 (by kernel_rfl) (fun w53 HL52 => ?_)
  clear HL48
  refine aw_n_then ?_
  refine aw_ret ?_
  refine aw_end (.bool true) (by kernel_rfl) (by kernel_rfl) ?_
  exact ⟨rfl, HL52.bel⟩

end Go.Proofs.YtmbcejldifobnaaDoor.Ln
