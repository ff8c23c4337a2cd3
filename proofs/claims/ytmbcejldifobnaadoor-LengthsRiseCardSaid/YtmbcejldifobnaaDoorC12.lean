import Derived.Test.YtmbcejldifobnaaDoorC08
import Derived.Test.YtmbcejldifobnaaDoorC11
namespace Go.Proofs.YtmbcejldifobnaaDoor.Ln
open Go.RowKit Tp Sp
set_option maxRecDepth 100000 in
set_option maxHeartbeats 2000000 in
theorem calculated_any (x y e : Int) (w : World) : Calls Tryd.prog 135 #[.agg #[.int .i64 x, .int .i64 y], .int .i64 e] w fun r w' => r = .returned (.agg #[.int .i64 x, .int .i64 y, .int .i64 e]) ∧ Below w.heap.size w w' := by
  refine calls_of_wp Tryd.func135 rfl ?_
  refine Boxw.out (ax_in ?_)
  have HB : Array.size ((#[.agg #[.int .i64 x, .int .i64 y], .int .i64 e] : Array Value) ++ Array.replicate (Func.ntmps Tryd.f135 - Array.size (#[.agg #[.int .i64 x, .int .i64 y], .int .i64 e] : Array Value)) undef) = 9 := by kernel_rfl
  have HL0 := Loc.start w
  refine aw_seq ?_
  refine aw_reg ?_
  refine ax_new 55 [.int .i64 x, .int .i64 y] HB HL0 (by kernel_rfl) (by kernel_rfl) ?_
  intro g1 w2 HL3
  clear HL0
  refine ax_new 125 [.int .i64 0, .int .i64 0, .int .i64 0] HB HL3 (by kernel_rfl) (by kernel_rfl) ?_
  intro g4 w5 HL6
  clear HL3
  refine aw_nil ?_
  refine aw_n_then ?_
  refine aw_seq ?_
  refine aw_reg ?_
  refine ax_mid 55 (.tmp 2) 1 g1 0 55 [.int .i64 x, .int .i64 y] [.int .i64 x, .int .i64 y] _ HB HL6 (by kernel_rfl) rfl (by kernel_rfl) rfl rfl Tryd.underlying55 rfl (by kernel_rfl) ?_
  refine ax_val (v := .agg #[.int .i64 x, .int .i64 y]) (.agg #[.int .i64 x, .int .i64 y]) HB (by kernel_rfl) (by kernel_rfl) (rfl) ?_
  refine ax_val (v := .int .i64 e) (.int .i64 e) HB (by kernel_rfl) (by kernel_rfl) (rfl) ?_
  refine ax_val (v := .agg #[.int .i64 x, .int .i64 y, .int .i64 e]) (.agg #[.int .i64 x, .int .i64 y, .int .i64 e]) HB (by kernel_rfl) (by kernel_rfl) (rfl) ?_
  refine ax_store 125 (.tmp 4) (.tmp 8) 0 g4 0 125 [.int .i64 0, .int .i64 0, .int .i64 0] [.int .i64 x, .int .i64 y, .int .i64 e] [.int .i64 x, .int .i64 y, .int .i64 e] [(g4, 125, [.int .i64 x, .int .i64 y, .int .i64 e]), (g1, 55, [.int .i64 x, .int .i64 y])] HB HL6 (by kernel_rfl) rfl (by kernel_rfl) (by kernel_rfl) rfl (by kernel_rfl) (by kernel_rfl) (Nat.le_of_ble_eq_true rfl) rfl rfl ?_
  intro w7 HL8
  clear HL6
  refine aw_nil ?_
  refine aw_n_then ?_
  refine aw_ret ?_
  refine aw_end (.agg #[.int .i64 x, .int .i64 y, .int .i64 e]) (by kernel_rfl) (res_c Tryd.results135 (by kernel_rfl) (loc_var HL8 (i := 0) rfl Tryd.underlying125 rfl (by kernel_rfl))) ?_
  exact ⟨rfl, HL8.bel⟩

set_option maxRecDepth 100000 in
set_option maxHeartbeats 2000000 in
theorem failed_any (e : Int) (w : World) : Calls Tryd.prog 130 #[.int .i64 e] w fun r w' => r = .returned (.agg #[.int .i64 0, .int .i64 0, .int .i64 e]) ∧ Below w.heap.size w w' := by
  refine calls_of_wp Tryd.func130 rfl ?_
  refine Boxw.out (ax_in ?_)
  have HB : Array.size ((#[.int .i64 e] : Array Value) ++ Array.replicate (Func.ntmps Tryd.f130 - Array.size (#[.int .i64 e] : Array Value)) undef) = 5 := by kernel_rfl
  have HL0 := Loc.start w
  refine aw_seq ?_
  refine aw_reg ?_
  refine ax_new 125 [.int .i64 0, .int .i64 0, .int .i64 0] HB HL0 (by kernel_rfl) (by kernel_rfl) ?_
  intro g1 w2 HL3
  clear HL0
  refine aw_nil ?_
  refine aw_n_then ?_
  refine aw_seq ?_
  refine aw_reg ?_
  refine ax_val (v := .int .i64 e) (.int .i64 e) HB (by kernel_rfl) (by kernel_rfl) (rfl) ?_
  refine ax_val (v := .agg #[.int .i64 0, .int .i64 0, .int .i64 e]) (.agg #[.int .i64 0, .int .i64 0, .int .i64 e]) HB (by kernel_rfl) (by kernel_rfl) (rfl) ?_
  refine ax_store 125 (.tmp 2) (.tmp 4) 0 g1 0 125 [.int .i64 0, .int .i64 0, .int .i64 0] [.int .i64 0, .int .i64 0, .int .i64 e] [.int .i64 0, .int .i64 0, .int .i64 e] [(g1, 125, [.int .i64 0, .int .i64 0, .int .i64 e])] HB HL3 (by kernel_rfl) rfl (by kernel_rfl) (by kernel_rfl) rfl (by kernel_rfl) (by kernel_rfl) (Nat.le_of_ble_eq_true rfl) rfl rfl ?_
  intro w4 HL5
  clear HL3
  refine aw_nil ?_
  refine aw_n_then ?_
  refine aw_ret ?_
  refine aw_end (.agg #[.int .i64 0, .int .i64 0, .int .i64 e]) (by kernel_rfl) (res_c Tryd.results130 (by kernel_rfl) (loc_var HL5 (i := 0) rfl Tryd.underlying125 rfl (by kernel_rfl))) ?_
  exact ⟨rfl, HL5.bel⟩

set_option maxRecDepth 100000 in
set_option maxHeartbeats 2000000 in
theorem number_any (n : Int) (w : World) : Calls Tryd.prog 171 #[.int .i64 n] w fun r w' => r = .returned (.agg #[.int .i64 n, .int .i64 n, .int .i64 0]) ∧ Below w.heap.size w w' := by
  refine calls_of_wp Tryd.func171 rfl ?_
  refine Boxw.out (ax_in ?_)
  have HB : Array.size ((#[.int .i64 n] : Array Value) ++ Array.replicate (Func.ntmps Tryd.f171 - Array.size (#[.int .i64 n] : Array Value)) undef) = 7 := by kernel_rfl
  have HL0 := Loc.start w
  refine aw_seq ?_
  refine aw_reg ?_
  refine ax_new 125 [.int .i64 0, .int .i64 0, .int .i64 0] HB HL0 (by kernel_rfl) (by kernel_rfl) ?_
  intro g1 w2 HL3
  clear HL0
  refine aw_nil ?_
  refine aw_n_then ?_
  refine aw_seq ?_
  refine aw_reg ?_
  refine ax_val (v := .int .i64 n) (.int .i64 n) HB (by kernel_rfl) (by kernel_rfl) (rfl) ?_
  refine ax_val (v := .int .i64 n) (.int .i64 n) HB (by kernel_rfl) (by kernel_rfl) (rfl) ?_
  refine ax_val (v := .agg #[.int .i64 n, .int .i64 n]) (.agg #[.int .i64 n, .int .i64 n]) HB (by kernel_rfl) (by kernel_rfl) (rfl) ?_
  refine ax_call 135 #[.agg #[.int .i64 n, .int .i64 n], .int .i64 0] (.agg #[.int .i64 n, .int .i64 n, .int .i64 0]) HB HL3 (by kernel_rfl) (by kernel_rfl) (calculated_any n n 0 w2) ?_
  intro w4 HL5
  clear HL3
  refine ax_store 125 (.tmp 2) (.tmp 6) 0 g1 0 125 [.int .i64 0, .int .i64 0, .int .i64 0] [.int .i64 n, .int .i64 n, .int .i64 0] [.int .i64 n, .int .i64 n, .int .i64 0] [(g1, 125, [.int .i64 n, .int .i64 n, .int .i64 0])] HB HL5 (by kernel_rfl) rfl (by kernel_rfl) (by kernel_rfl) rfl (by kernel_rfl) (by kernel_rfl) (Nat.le_of_ble_eq_true rfl) rfl rfl ?_
  intro w6 HL7
  clear HL5
  refine aw_nil ?_
  refine aw_n_then ?_
  refine aw_ret ?_
  refine aw_end (.agg #[.int .i64 n, .int .i64 n, .int .i64 0]) (by kernel_rfl) (res_c Tryd.results171 (by kernel_rfl) (loc_var HL7 (i := 0) rfl Tryd.underlying125 rfl (by kernel_rfl))) ?_
  exact ⟨rfl, HL7.bel⟩

def liesB (x y l m : Int) : Bool := decide (l ≤ x) && (decide (x ≤ y) && decide (y ≤ m))
set_option maxRecDepth 100000 in
set_option maxHeartbeats 2000000 in
theorem lies_any (x y l m : Int) (w : World) : Calls Tryd.prog 142 #[.agg #[.int .i64 x, .int .i64 y], .int .i64 l, .int .i64 m] w fun r w' => r = .returned (.bool (liesB x y l m)) ∧ Below w.heap.size w w' := by
  refine calls_of_wp Tryd.func142 rfl ?_
  refine Boxw.out (ax_in ?_)
  have HB : Array.size ((#[.agg #[.int .i64 x, .int .i64 y], .int .i64 l, .int .i64 m] : Array Value) ++ Array.replicate (Func.ntmps Tryd.f142 - Array.size (#[.agg #[.int .i64 x, .int .i64 y], .int .i64 l, .int .i64 m] : Array Value)) undef) = 28 := by kernel_rfl
  have HL0 := Loc.start w
  refine aw_seq ?_
  refine aw_reg ?_
  refine ax_new 123 [.int .i64 x, .int .i64 y] HB HL0 (by kernel_rfl) (by kernel_rfl) ?_
  intro g1 w2 HL3
  clear HL0
  refine ax_val (v := .bool false) (.bool false) HB (by kernel_rfl) (by kernel_rfl) (rfl) ?_
  refine aw_nil ?_
  refine aw_n_then ?_
  refine aw_seq ?_
  refine aw_reg ?_
  refine ax_val (v := .int .i64 l) (.int .i64 l) HB (by kernel_rfl) (by kernel_rfl) (rfl) ?_
  refine ax_val (v := .pointer (some ⟨g1, 0, none⟩)) (.pointer (some ⟨g1, 0, none⟩)) HB (by kernel_rfl) (by kernel_rfl) (rfl) ?_
  refine ax_val (v := .pointer (some ⟨g1, 0, none⟩)) (.pointer (some ⟨g1, 0, none⟩)) HB (by kernel_rfl) (by kernel_rfl) (rfl) ?_
  refine ax_load 2 (.tmp 9) 0 g1 0 123 [.int .i64 x, .int .i64 y] (.int .i64 x) _ HB HL3 (by kernel_rfl) rfl (by kernel_rfl) rfl rfl Tryd.underlying2 rfl ?_
  refine ax_fork (decide (l ≤ x)) HB (by kernel_rfl) (by kernel_rfl) ?_ ?_
  · intro f4
    have k4 := of_decide_eq_true f4
    refine ax_val (v := .bool true) (.bool true) HB (by kernel_rfl) (by kernel_rfl) (rfl) ?_
    refine ax_val (v := .pointer (some ⟨g1, 0, none⟩)) (.pointer (some ⟨g1, 0, none⟩)) HB (by kernel_rfl) (by kernel_rfl) (rfl) ?_
    refine ax_val (v := .pointer (some ⟨g1, 0, none⟩)) (.pointer (some ⟨g1, 0, none⟩)) HB (by kernel_rfl) (by kernel_rfl) (rfl) ?_
    refine ax_load 2 (.tmp 14) 0 g1 0 123 [.int .i64 x, .int .i64 y] (.int .i64 x) _ HB HL3 (by kernel_rfl) rfl (by kernel_rfl) rfl rfl Tryd.underlying2 rfl ?_
    refine ax_val (v := .pointer (some ⟨g1, 0, none⟩)) (.pointer (some ⟨g1, 0, none⟩)) HB (by kernel_rfl) (by kernel_rfl) (rfl) ?_
    refine ax_val (v := .pointer (some ⟨g1, 1, none⟩)) (.pointer (some ⟨g1, 1, none⟩)) HB (by kernel_rfl) (by kernel_rfl) (rfl) ?_
    refine ax_load 2 (.tmp 17) 0 g1 1 123 [.int .i64 x, .int .i64 y] (.int .i64 y) _ HB HL3 (by kernel_rfl) rfl (by kernel_rfl) rfl rfl Tryd.underlying2 rfl ?_
    refine ax_fork (decide (x ≤ y)) HB (by kernel_rfl) (by kernel_rfl) ?_ ?_
    · intro f6
      have k6 := of_decide_eq_true f6
      refine ax_val (v := .bool true) (.bool true) HB (by kernel_rfl) (by kernel_rfl) (rfl) ?_
      refine ax_val (v := .bool true) (.bool true) HB (by kernel_rfl) (by kernel_rfl) (rfl) ?_
      refine ax_val (v := .pointer (some ⟨g1, 0, none⟩)) (.pointer (some ⟨g1, 0, none⟩)) HB (by kernel_rfl) (by kernel_rfl) (rfl) ?_
      refine ax_val (v := .pointer (some ⟨g1, 1, none⟩)) (.pointer (some ⟨g1, 1, none⟩)) HB (by kernel_rfl) (by kernel_rfl) (rfl) ?_
      refine ax_load 2 (.tmp 23) 0 g1 1 123 [.int .i64 x, .int .i64 y] (.int .i64 y) _ HB HL3 (by kernel_rfl) rfl (by kernel_rfl) rfl rfl Tryd.underlying2 rfl ?_
      refine ax_val (v := .int .i64 m) (.int .i64 m) HB (by kernel_rfl) (by kernel_rfl) (rfl) ?_
      refine ax_fork (decide (y ≤ m)) HB (by kernel_rfl) (by kernel_rfl) ?_ ?_
      · intro f8
        have k8 := of_decide_eq_true f8
        refine ax_val (v := .bool true) (.bool true) HB (by kernel_rfl) (by kernel_rfl) (rfl) ?_
        refine ax_val (v := .bool true) (.bool true) HB (by kernel_rfl) (by kernel_rfl) (rfl) ?_
        refine aw_nil ?_
        refine aw_n_then ?_
        refine aw_ret ?_
        refine aw_end (.bool true) (by kernel_rfl) (by kernel_rfl) ?_
        refine ⟨?_, HL3.bel⟩
        unfold liesB; simp only [f4, f6, f8]; rfl
      · intro f9
        have k9 := of_decide_eq_false f9
        refine ax_val (v := .bool false) (.bool false) HB (by kernel_rfl) (by kernel_rfl) (rfl) ?_
        refine ax_val (v := .bool false) (.bool false) HB (by kernel_rfl) (by kernel_rfl) (rfl) ?_
        refine aw_nil ?_
        refine aw_n_then ?_
        refine aw_ret ?_
        refine aw_end (.bool false) (by kernel_rfl) (by kernel_rfl) ?_
        refine ⟨?_, HL3.bel⟩
        unfold liesB; simp only [f4, f6, f9]; rfl
    · intro f7
      have k7 := of_decide_eq_false f7
      refine ax_val (v := .bool false) (.bool false) HB (by kernel_rfl) (by kernel_rfl) (rfl) ?_
      refine ax_val (v := .bool false) (.bool false) HB (by kernel_rfl) (by kernel_rfl) (rfl) ?_
      refine ax_pass  HB (by kernel_rfl) ?_
      refine ax_pass  HB (by kernel_rfl) ?_
      refine ax_pass  HB (by kernel_rfl) ?_
      refine ax_pass  HB (by kernel_rfl) ?_
      refine ax_pass  HB (by kernel_rfl) ?_
      refine ax_val (v := .bool false) (.bool false) HB (by kernel_rfl) (by kernel_rfl) (rfl) ?_
      refine ax_val (v := .bool false) (.bool false) HB (by kernel_rfl) (by kernel_rfl) (rfl) ?_
      refine aw_nil ?_
      refine aw_n_then ?_
      refine aw_ret ?_
      refine aw_end (.bool false) (by kernel_rfl) (by kernel_rfl) ?_
      refine ⟨?_, HL3.bel⟩
      unfold liesB; simp only [f4, f7]; rfl
  · intro f5
    have k5 := of_decide_eq_false f5
    refine ax_val (v := .bool false) (.bool false) HB (by kernel_rfl) (by kernel_rfl) (rfl) ?_
    refine ax_pass  HB (by kernel_rfl) ?_
    refine ax_pass  HB (by kernel_rfl) ?_
    refine ax_pass  HB (by kernel_rfl) ?_
    refine ax_pass  HB (by kernel_rfl) ?_
    refine ax_pass  HB (by kernel_rfl) ?_
    refine ax_pass  HB (by kernel_rfl) ?_
    refine ax_pass  HB (by kernel_rfl) ?_
    refine ax_val (v := .bool false) (.bool false) HB (by kernel_rfl) (by kernel_rfl) (rfl) ?_
    refine ax_val (v := .bool false) (.bool false) HB (by kernel_rfl) (by kernel_rfl) (rfl) ?_
    refine ax_pass  HB (by kernel_rfl) ?_
    refine ax_pass  HB (by kernel_rfl) ?_
    refine ax_pass  HB (by kernel_rfl) ?_
    refine ax_pass  HB (by kernel_rfl) ?_
    refine ax_pass  HB (by kernel_rfl) ?_
    refine ax_val (v := .bool false) (.bool false) HB (by kernel_rfl) (by kernel_rfl) (rfl) ?_
    refine ax_val (v := .bool false) (.bool false) HB (by kernel_rfl) (by kernel_rfl) (rfl) ?_
    refine aw_nil ?_
    refine aw_n_then ?_
    refine aw_ret ?_
    refine aw_end (.bool false) (by kernel_rfl) (by kernel_rfl) ?_
    refine ⟨?_, HL3.bel⟩
    unfold liesB; simp only [f5]; rfl

theorem lies_iff {x y l m : Int} : liesB x y l m = true ↔ l ≤ x ∧ x ≤ y ∧ y ≤ m := by unfold liesB; rw [Bool.and_eq_true, Bool.and_eq_true, decide_eq_true_eq, decide_eq_true_eq, decide_eq_true_eq]
theorem lies_no {x y l m : Int} (h : liesB x y l m = false) : ¬ (l ≤ x ∧ x ≤ y ∧ y ≤ m) := fun g => by rw [lies_iff.2 g] at h; cases h
theorem lim_keep {x y e l m q : Int} (h : ¬ e = 0 ∨ (l ≤ x ∧ x ≤ y ∧ y ≤ m)) : limE ((x, y), e) l m q = ((x, y), e) := by
  unfold limE
  rw [if_neg]
  rintro ⟨h1, h2⟩
  rcases h with h | h
  · exact h h1
  · exact h2 h
theorem lim_drop {x y e l m q : Int} (h1 : e = 0) (h : ¬ (l ≤ x ∧ x ≤ y ∧ y ≤ m)) : limE ((x, y), e) l m q = ((0, 0), q) := by
  unfold limE; rw [if_pos ⟨h1, h⟩]
def calV (c : (Int × Int) × Int) : Value := .agg #[.int .i64 c.1.1, .int .i64 c.1.2, .int .i64 c.2]
set_option maxRecDepth 100000 in
set_option maxHeartbeats 2000000 in
theorem limited_any (x y e l m q : Int) (w : World) : Calls Tryd.prog 84 #[.agg #[.int .i64 x, .int .i64 y, .int .i64 e], .int .i64 l, .int .i64 m, .int .i64 q] w fun r w' => r = .returned (calV (limE ((x, y), e) l m q)) ∧ Below w.heap.size w w' := by
  refine calls_of_wp Tryd.func84 rfl ?_
  refine Boxw.out (ax_in ?_)
  have HB : Array.size ((#[.agg #[.int .i64 x, .int .i64 y, .int .i64 e], .int .i64 l, .int .i64 m, .int .i64 q] : Array Value) ++ Array.replicate (Func.ntmps Tryd.f84 - Array.size (#[.agg #[.int .i64 x, .int .i64 y, .int .i64 e], .int .i64 l, .int .i64 m, .int .i64 q] : Array Value)) undef) = 23 := by kernel_rfl
  have HL0 := Loc.start w
  refine aw_seq ?_
  refine aw_reg ?_
  refine ax_new 125 [.int .i64 x, .int .i64 y, .int .i64 e] HB HL0 (by kernel_rfl) (by kernel_rfl) ?_
  intro g1 w2 HL3
  clear HL0
  refine ax_new 125 [.int .i64 0, .int .i64 0, .int .i64 0] HB HL3 (by kernel_rfl) (by kernel_rfl) ?_
  intro g4 w5 HL6
  clear HL3
  refine aw_nil ?_
  refine aw_n_then ?_
  refine aw_seq ?_
  refine aw_seq ?_
  refine aw_reg ?_
  refine ax_val (v := .pointer (some ⟨g1, 2, none⟩)) (.pointer (some ⟨g1, 2, none⟩)) HB (by kernel_rfl) (by kernel_rfl) (rfl) ?_
  refine ax_load 25 (.tmp 9) 1 g1 2 125 [.int .i64 x, .int .i64 y, .int .i64 e] (.int .i64 e) _ HB HL6 (by kernel_rfl) rfl (by kernel_rfl) rfl rfl Tryd.underlying25 rfl ?_
  refine ax_fork (e == 0) HB (by kernel_rfl) (by kernel_rfl) ?_ ?_
  · intro f7
    have k7 := eq_of_beq f7
    refine ax_val (v := .bool true) (.bool true) HB (by kernel_rfl) (by kernel_rfl) (rfl) ?_
    refine ax_val (v := .pointer (some ⟨g1, 0, none⟩)) (.pointer (some ⟨g1, 0, none⟩)) HB (by kernel_rfl) (by kernel_rfl) (rfl) ?_
    refine ax_mid 123 (.tmp 13) 1 g1 0 125 [.int .i64 x, .int .i64 y, .int .i64 e] [.int .i64 x, .int .i64 y] _ HB HL6 (by kernel_rfl) rfl (by kernel_rfl) rfl rfl Tryd.underlying123 rfl (by kernel_rfl) ?_
    refine ax_val (v := .int .i64 l) (.int .i64 l) HB (by kernel_rfl) (by kernel_rfl) (rfl) ?_
    refine ax_val (v := .int .i64 m) (.int .i64 m) HB (by kernel_rfl) (by kernel_rfl) (rfl) ?_
    refine ax_callb 142 #[.agg #[.int .i64 x, .int .i64 y], .int .i64 l, .int .i64 m] (liesB x y l m) HB HL6 (by kernel_rfl) (by kernel_rfl) (lies_any x y l m w5) ?_ ?_
    · intro f11 w9 HL10
      clear HL6
      refine ax_val (v := .bool false) (.bool false) HB (by kernel_rfl) (by kernel_rfl) (rfl) ?_
      refine ax_val (v := .bool false) (.bool false) HB (by kernel_rfl) (by kernel_rfl) (rfl) ?_
      refine aw_nil ?_
      refine aw_n_then ?_
      refine ax_no HB (by kernel_rfl) ?_
      refine aw_skip0 ?_
      refine aw_n_then ?_
      refine aw_seq ?_
      refine aw_reg ?_
      refine ax_mid 125 (.tmp 4) 1 g1 0 125 [.int .i64 x, .int .i64 y, .int .i64 e] [.int .i64 x, .int .i64 y, .int .i64 e] _ HB HL10 (by kernel_rfl) rfl (by kernel_rfl) rfl rfl Tryd.underlying125 rfl (by kernel_rfl) ?_
      refine ax_store 125 (.tmp 8) (.tmp 22) 0 g4 0 125 [.int .i64 0, .int .i64 0, .int .i64 0] [.int .i64 x, .int .i64 y, .int .i64 e] [.int .i64 x, .int .i64 y, .int .i64 e] [(g4, 125, [.int .i64 x, .int .i64 y, .int .i64 e]), (g1, 125, [.int .i64 x, .int .i64 y, .int .i64 e])] HB HL10 (by kernel_rfl) rfl (by kernel_rfl) (by kernel_rfl) rfl (by kernel_rfl) (by kernel_rfl) (Nat.le_of_ble_eq_true rfl) rfl rfl ?_
      intro w13 HL14
      clear HL10
      refine aw_nil ?_
      refine aw_n_then ?_
      refine aw_ret ?_
      refine aw_end (.agg #[.int .i64 x, .int .i64 y, .int .i64 e]) (by kernel_rfl) (res_c Tryd.results84 (by kernel_rfl) (loc_var HL14 (i := 0) rfl Tryd.underlying125 rfl (by kernel_rfl))) ?_
      exact ⟨by rw [lim_keep (.inr (lies_iff.1 f11))]; rfl, HL14.bel⟩
    · intro f12 w9 HL10
      clear HL6
      refine ax_val (v := .bool true) (.bool true) HB (by kernel_rfl) (by kernel_rfl) (rfl) ?_
      refine ax_val (v := .bool true) (.bool true) HB (by kernel_rfl) (by kernel_rfl) (rfl) ?_
      refine aw_nil ?_
      refine aw_n_then ?_
      refine ax_yes HB (by kernel_rfl) ?_
      refine aw_seq ?_
      refine aw_reg ?_
      refine ax_val (v := .int .i64 q) (.int .i64 q) HB (by kernel_rfl) (by kernel_rfl) (rfl) ?_
      refine ax_call 130 #[.int .i64 q] (.agg #[.int .i64 0, .int .i64 0, .int .i64 q]) HB HL10 (by kernel_rfl) (by kernel_rfl) (failed_any q w9) ?_
      intro w15 HL16
      clear HL10
      refine ax_store 125 (.tmp 8) (.tmp 21) 0 g4 0 125 [.int .i64 0, .int .i64 0, .int .i64 0] [.int .i64 0, .int .i64 0, .int .i64 q] [.int .i64 0, .int .i64 0, .int .i64 q] [(g4, 125, [.int .i64 0, .int .i64 0, .int .i64 q]), (g1, 125, [.int .i64 x, .int .i64 y, .int .i64 e])] HB HL16 (by kernel_rfl) rfl (by kernel_rfl) (by kernel_rfl) rfl (by kernel_rfl) (by kernel_rfl) (Nat.le_of_ble_eq_true rfl) rfl rfl ?_
      intro w17 HL18
      clear HL16
      refine aw_nil ?_
      refine aw_n_then ?_
      refine aw_ret ?_
      refine aw_r_then ?_
      refine aw_end (.agg #[.int .i64 0, .int .i64 0, .int .i64 q]) (by kernel_rfl) (res_c Tryd.results84 (by kernel_rfl) (loc_var HL18 (i := 0) rfl Tryd.underlying125 rfl (by kernel_rfl))) ?_
      exact ⟨by rw [lim_drop k7 (lies_no f12)]; rfl, HL18.bel⟩
  · intro f8
    have k8 := ne_of_beq_false f8
    refine ax_val (v := .bool false) (.bool false) HB (by kernel_rfl) (by kernel_rfl) (rfl) ?_
    refine ax_pass  HB (by kernel_rfl) ?_
    refine ax_pass  HB (by kernel_rfl) ?_
    refine ax_pass  HB (by kernel_rfl) ?_
    refine ax_pass  HB (by kernel_rfl) ?_
    refine ax_pass  HB (by kernel_rfl) ?_
    refine ax_pass  HB (by kernel_rfl) ?_
    refine ax_val (v := .bool false) (.bool false) HB (by kernel_rfl) (by kernel_rfl) (rfl) ?_
    refine aw_nil ?_
    refine aw_n_then ?_
    refine ax_no HB (by kernel_rfl) ?_
    refine aw_skip0 ?_
    refine aw_n_then ?_
    refine aw_seq ?_
    refine aw_reg ?_
    refine ax_mid 125 (.tmp 4) 1 g1 0 125 [.int .i64 x, .int .i64 y, .int .i64 e] [.int .i64 x, .int .i64 y, .int .i64 e] _ HB HL6 (by kernel_rfl) rfl (by kernel_rfl) rfl rfl Tryd.underlying125 rfl (by kernel_rfl) ?_
    refine ax_store 125 (.tmp 8) (.tmp 22) 0 g4 0 125 [.int .i64 0, .int .i64 0, .int .i64 0] [.int .i64 x, .int .i64 y, .int .i64 e] [.int .i64 x, .int .i64 y, .int .i64 e] [(g4, 125, [.int .i64 x, .int .i64 y, .int .i64 e]), (g1, 125, [.int .i64 x, .int .i64 y, .int .i64 e])] HB HL6 (by kernel_rfl) rfl (by kernel_rfl) (by kernel_rfl) rfl (by kernel_rfl) (by kernel_rfl) (Nat.le_of_ble_eq_true rfl) rfl rfl ?_
    intro w19 HL20
    clear HL6
    refine aw_nil ?_
    refine aw_n_then ?_
    refine aw_ret ?_
    refine aw_end (.agg #[.int .i64 x, .int .i64 y, .int .i64 e]) (by kernel_rfl) (res_c Tryd.results84 (by kernel_rfl) (loc_var HL20 (i := 0) rfl Tryd.underlying125 rfl (by kernel_rfl))) ?_
    exact ⟨by rw [lim_keep (.inl k8)]; rfl, HL20.bel⟩

end Go.Proofs.YtmbcejldifobnaaDoor.Ln
