import Derived.Test.YtmbcejldifobnaaDoorC17
namespace Go.Proofs.YtmbcejldifobnaaDoor.Ln
open Go.RowKit Tp Sp Pc
set_option maxRecDepth 100000 in
set_option maxHeartbeats 2000000 in
theorem between_any (n lo hi : Int) (w : World) : Calls Tryd.prog 87 #[.int .i64 n, .int .i64 lo, .int .i64 hi] w fun r w' => r = .returned (.bool (inB n lo hi)) ∧ Below w.heap.size w w' := by
  refine calls_of_wp Tryd.func87 rfl ?_
  refine Boxw.out (ax_in ?_)
  have HB : Array.size ((#[.int .i64 n, .int .i64 lo, .int .i64 hi] : Array Value) ++ Array.replicate (Func.ntmps Tryd.f87 - Array.size (#[.int .i64 n, .int .i64 lo, .int .i64 hi] : Array Value)) undef) = 15 := by kernel_rfl
  have HL0 := Loc.start w
  refine aw_seq ?_
  refine aw_reg ?_
  refine ax_val (v := .bool false) (.bool false) HB (by kernel_rfl) (by kernel_rfl) (rfl) ?_
  refine aw_nil ?_
  refine aw_n_then ?_
  refine aw_seq ?_
  refine aw_reg ?_
  refine ax_val (v := .int .i64 n) (.int .i64 n) HB (by kernel_rfl) (by kernel_rfl) (rfl) ?_
  refine ax_val (v := .int .i64 lo) (.int .i64 lo) HB (by kernel_rfl) (by kernel_rfl) (rfl) ?_
  refine ax_fork (decide (lo ≤ n)) HB (by kernel_rfl) (by kernel_rfl) ?_ ?_
  · intro f1
    have k1 := of_decide_eq_true f1
    refine ax_val (v := .bool true) (.bool true) HB (by kernel_rfl) (by kernel_rfl) (rfl) ?_
    refine ax_val (v := .int .i64 n) (.int .i64 n) HB (by kernel_rfl) (by kernel_rfl) (rfl) ?_
    refine ax_val (v := .int .i64 hi) (.int .i64 hi) HB (by kernel_rfl) (by kernel_rfl) (rfl) ?_
    refine ax_fork (decide (n ≤ hi)) HB (by kernel_rfl) (by kernel_rfl) ?_ ?_
    · intro f3
      have k3 := of_decide_eq_true f3
      refine ax_val (v := .bool true) (.bool true) HB (by kernel_rfl) (by kernel_rfl) (rfl) ?_
      refine ax_val (v := .bool true) (.bool true) HB (by kernel_rfl) (by kernel_rfl) (rfl) ?_
      refine aw_nil ?_
      refine aw_n_then ?_
      refine aw_ret ?_
      refine aw_end (.bool true) (by kernel_rfl) (by kernel_rfl) ?_
      refine ⟨?_, HL0.bel⟩
      unfold inB; simp only [f1, f3]; rfl
    · intro f4
      have k4 := of_decide_eq_false f4
      refine ax_val (v := .bool false) (.bool false) HB (by kernel_rfl) (by kernel_rfl) (rfl) ?_
      refine ax_val (v := .bool false) (.bool false) HB (by kernel_rfl) (by kernel_rfl) (rfl) ?_
      refine aw_nil ?_
      refine aw_n_then ?_
      refine aw_ret ?_
      refine aw_end (.bool false) (by kernel_rfl) (by kernel_rfl) ?_
      refine ⟨?_, HL0.bel⟩
      unfold inB; simp only [f1, f4]; rfl
  · intro f2
    have k2 := of_decide_eq_false f2
    refine ax_val (v := .bool false) (.bool false) HB (by kernel_rfl) (by kernel_rfl) (rfl) ?_
    refine ax_pass  HB (by kernel_rfl) ?_
    refine ax_pass  HB (by kernel_rfl) ?_
    refine ax_pass  HB (by kernel_rfl) ?_
    refine ax_val (v := .bool false) (.bool false) HB (by kernel_rfl) (by kernel_rfl) (rfl) ?_
    refine ax_val (v := .bool false) (.bool false) HB (by kernel_rfl) (by kernel_rfl) (rfl) ?_
    refine aw_nil ?_
    refine aw_n_then ?_
    refine aw_ret ?_
    refine aw_end (.bool false) (by kernel_rfl) (by kernel_rfl) ?_
    refine ⟨?_, HL0.bel⟩
    unfold inB; simp only [f2]; rfl

theorem bd_split {k B T M C : Int} : (1 ≤ k ∧ k ≤ 3) ∧ (1000 ≤ B ∧ B ≤ 500000) ∧ (1000 ≤ T ∧ T ≤ 500000) ∧ ((k = 3 ∧ T < B) ∨ (k ≠ 3 ∧ T = B)) ∧ (1 ≤ M ∧ M ≤ 4 * B) ∧ (1 ≤ C ∧ C ≤ 4 * B) ↔ bdB k B T M C = true := by
  rw [bdB_iff]
  by_cases h : k = 3
  · rw [if_pos h]; omega
  · rw [if_neg h]; omega
set_option maxRecDepth 100000 in
set_option maxHeartbeats 2000000 in
theorem rCheck_any (k B T M C : Int) (w : World) : Calls Tryd.prog 37 #[.agg #[.int .i64 k, .int .i64 B, .int .i64 T, .int .i64 M, .int .i64 C]] w fun r w' => r = .returned (.int .i64 (if bdB k B T M C = true then 0 else 2)) ∧ Below w.heap.size w w' := by
  refine calls_of_wp Tryd.func37 rfl ?_
  refine Boxw.out (ax_in ?_)
  have HB : Array.size ((#[.agg #[.int .i64 k, .int .i64 B, .int .i64 T, .int .i64 M, .int .i64 C]] : Array Value) ++ Array.replicate (Func.ntmps Tryd.f37 - Array.size (#[.agg #[.int .i64 k, .int .i64 B, .int .i64 T, .int .i64 M, .int .i64 C]] : Array Value)) undef) = 63 := by kernel_rfl
  have HL0 := Loc.start w
  refine aw_seq ?_
  refine aw_reg ?_
  refine ax_new 64 [.int .i64 k, .int .i64 B, .int .i64 T, .int .i64 M, .int .i64 C] HB HL0 (by kernel_rfl) (by kernel_rfl) ?_
  intro g1 w2 HL3
  clear HL0
  refine ax_val (v := .int .i64 0) (.int .i64 0) HB (by kernel_rfl) (by kernel_rfl) (rfl) ?_
  refine aw_nil ?_
  refine aw_n_then ?_
  refine aw_seq ?_
  refine aw_seq ?_
  refine aw_reg ?_
  refine ax_val (v := .pointer (some ⟨g1, 0, none⟩)) (.pointer (some ⟨g1, 0, none⟩)) HB (by kernel_rfl) (by kernel_rfl) (rfl) ?_
  refine ax_load 3 (.tmp 3) 0 g1 0 64 [.int .i64 k, .int .i64 B, .int .i64 T, .int .i64 M, .int .i64 C] (.int .i64 k) _ HB HL3 (by kernel_rfl) rfl (by kernel_rfl) rfl rfl Tryd.underlying3 rfl ?_
  refine ax_fork (decide (k < 1)) HB (by kernel_rfl) (by kernel_rfl) ?_ ?_
  · intro f4
    have k4 := of_decide_eq_true f4
    refine ax_val (v := .bool true) (.bool true) HB (by kernel_rfl) (by kernel_rfl) (rfl) ?_
    refine ax_pass  HB (by kernel_rfl) ?_
    refine ax_pass  HB (by kernel_rfl) ?_
    refine ax_pass  HB (by kernel_rfl) ?_
    refine ax_val (v := .bool true) (.bool true) HB (by kernel_rfl) (by kernel_rfl) (rfl) ?_
    refine ax_val (v := .bool true) (.bool true) HB (by kernel_rfl) (by kernel_rfl) (rfl) ?_
    refine ax_pass  HB (by kernel_rfl) ?_
    refine ax_pass  HB (by kernel_rfl) ?_
    refine ax_pass  HB (by kernel_rfl) ?_
    refine ax_pass  HB (by kernel_rfl) ?_
    refine ax_val (v := .bool true) (.bool true) HB (by kernel_rfl) (by kernel_rfl) (rfl) ?_
    refine ax_val (v := .bool true) (.bool true) HB (by kernel_rfl) (by kernel_rfl) (rfl) ?_
    refine ax_pass  HB (by kernel_rfl) ?_
    refine ax_pass  HB (by kernel_rfl) ?_
    refine ax_pass  HB (by kernel_rfl) ?_
    refine ax_pass  HB (by kernel_rfl) ?_
    refine ax_val (v := .bool true) (.bool true) HB (by kernel_rfl) (by kernel_rfl) (rfl) ?_
    refine aw_nil ?_
    refine aw_n_then ?_
    refine ax_yes HB (by kernel_rfl) ?_
    refine aw_seq ?_
    refine aw_reg ?_
    refine ax_val (v := .int .i64 2) (.int .i64 2) HB (by kernel_rfl) (by kernel_rfl) (rfl) ?_
    refine aw_nil ?_
    refine aw_n_then ?_
    refine aw_ret ?_
    refine aw_r_then ?_
    refine aw_end (.int .i64 2) (by kernel_rfl) (by kernel_rfl) ?_
    exact ⟨by rw [if_neg (fun hh => by have := bd_split.2 hh; omega)], HL3.bel⟩
  · intro f5
    have k5 := of_decide_eq_false f5
    refine ax_val (v := .bool false) (.bool false) HB (by kernel_rfl) (by kernel_rfl) (rfl) ?_
    refine ax_val (v := .pointer (some ⟨g1, 0, none⟩)) (.pointer (some ⟨g1, 0, none⟩)) HB (by kernel_rfl) (by kernel_rfl) (rfl) ?_
    refine ax_load 3 (.tmp 7) 0 g1 0 64 [.int .i64 k, .int .i64 B, .int .i64 T, .int .i64 M, .int .i64 C] (.int .i64 k) _ HB HL3 (by kernel_rfl) rfl (by kernel_rfl) rfl rfl Tryd.underlying3 rfl ?_
    refine ax_fork (decide (3 < k)) HB (by kernel_rfl) (by kernel_rfl) ?_ ?_
    · intro f6
      have k6 := of_decide_eq_true f6
      refine ax_val (v := .bool true) (.bool true) HB (by kernel_rfl) (by kernel_rfl) (rfl) ?_
      refine ax_val (v := .bool true) (.bool true) HB (by kernel_rfl) (by kernel_rfl) (rfl) ?_
      refine ax_pass  HB (by kernel_rfl) ?_
      refine ax_pass  HB (by kernel_rfl) ?_
      refine ax_pass  HB (by kernel_rfl) ?_
      refine ax_pass  HB (by kernel_rfl) ?_
      refine ax_val (v := .bool true) (.bool true) HB (by kernel_rfl) (by kernel_rfl) (rfl) ?_
      refine ax_val (v := .bool true) (.bool true) HB (by kernel_rfl) (by kernel_rfl) (rfl) ?_
      refine ax_pass  HB (by kernel_rfl) ?_
      refine ax_pass  HB (by kernel_rfl) ?_
      refine ax_pass  HB (by kernel_rfl) ?_
      refine ax_pass  HB (by kernel_rfl) ?_
      refine ax_val (v := .bool true) (.bool true) HB (by kernel_rfl) (by kernel_rfl) (rfl) ?_
      refine aw_nil ?_
      refine aw_n_then ?_
      refine ax_yes HB (by kernel_rfl) ?_
      refine aw_seq ?_
      refine aw_reg ?_
      refine ax_val (v := .int .i64 2) (.int .i64 2) HB (by kernel_rfl) (by kernel_rfl) (rfl) ?_
      refine aw_nil ?_
      refine aw_n_then ?_
      refine aw_ret ?_
      refine aw_r_then ?_
      refine aw_end (.int .i64 2) (by kernel_rfl) (by kernel_rfl) ?_
      exact ⟨by rw [if_neg (fun hh => by have := bd_split.2 hh; omega)], HL3.bel⟩
    · intro f7
      have k7 := of_decide_eq_false f7
      refine ax_val (v := .bool false) (.bool false) HB (by kernel_rfl) (by kernel_rfl) (rfl) ?_
      refine ax_val (v := .bool false) (.bool false) HB (by kernel_rfl) (by kernel_rfl) (rfl) ?_
      refine ax_val (v := .pointer (some ⟨g1, 1, none⟩)) (.pointer (some ⟨g1, 1, none⟩)) HB (by kernel_rfl) (by kernel_rfl) (rfl) ?_
      refine ax_load 2 (.tmp 12) 0 g1 1 64 [.int .i64 k, .int .i64 B, .int .i64 T, .int .i64 M, .int .i64 C] (.int .i64 B) _ HB HL3 (by kernel_rfl) rfl (by kernel_rfl) rfl rfl Tryd.underlying2 rfl ?_
      refine ax_callb 87 #[.int .i64 B, .int .i64 1000, .int .i64 500000] (inB B 1000 500000) HB HL3 (by kernel_rfl) (by kernel_rfl) (between_any B 1000 500000 w2) ?_ ?_
      · intro f10 w8 HL9
        clear HL3
        have k10 := inB_iff.1 f10
        refine ax_val (v := .bool false) (.bool false) HB (by kernel_rfl) (by kernel_rfl) (rfl) ?_
        refine ax_val (v := .bool false) (.bool false) HB (by kernel_rfl) (by kernel_rfl) (rfl) ?_
        refine ax_val (v := .bool false) (.bool false) HB (by kernel_rfl) (by kernel_rfl) (rfl) ?_
        refine ax_val (v := .pointer (some ⟨g1, 2, none⟩)) (.pointer (some ⟨g1, 2, none⟩)) HB (by kernel_rfl) (by kernel_rfl) (rfl) ?_
        refine ax_load 2 (.tmp 18) 0 g1 2 64 [.int .i64 k, .int .i64 B, .int .i64 T, .int .i64 M, .int .i64 C] (.int .i64 T) _ HB HL9 (by kernel_rfl) rfl (by kernel_rfl) rfl rfl Tryd.underlying2 rfl ?_
        refine ax_callb 87 #[.int .i64 T, .int .i64 1000, .int .i64 500000] (inB T 1000 500000) HB HL9 (by kernel_rfl) (by kernel_rfl) (between_any T 1000 500000 w8) ?_ ?_
        · intro f14 w12 HL13
          clear HL9
          have k14 := inB_iff.1 f14
          refine ax_val (v := .bool false) (.bool false) HB (by kernel_rfl) (by kernel_rfl) (rfl) ?_
          refine ax_val (v := .bool false) (.bool false) HB (by kernel_rfl) (by kernel_rfl) (rfl) ?_
          refine aw_nil ?_
          refine aw_n_then ?_
          refine ax_no HB (by kernel_rfl) ?_
          refine aw_skip0 ?_
          refine aw_n_then ?_
          refine aw_seq ?_
          refine aw_seq ?_
          refine aw_reg ?_
          refine ax_val (v := .pointer (some ⟨g1, 0, none⟩)) (.pointer (some ⟨g1, 0, none⟩)) HB (by kernel_rfl) (by kernel_rfl) (rfl) ?_
          refine ax_load 3 (.tmp 23) 0 g1 0 64 [.int .i64 k, .int .i64 B, .int .i64 T, .int .i64 M, .int .i64 C] (.int .i64 k) _ HB HL13 (by kernel_rfl) rfl (by kernel_rfl) rfl rfl Tryd.underlying3 rfl ?_
          refine ax_fork (k == 3) HB (by kernel_rfl) (by kernel_rfl) ?_ ?_
          · intro f16
            have k16 := eq_of_beq f16
            refine ax_val (v := .bool true) (.bool true) HB (by kernel_rfl) (by kernel_rfl) (rfl) ?_
            refine ax_val (v := .pointer (some ⟨g1, 2, none⟩)) (.pointer (some ⟨g1, 2, none⟩)) HB (by kernel_rfl) (by kernel_rfl) (rfl) ?_
            refine ax_load 2 (.tmp 27) 0 g1 2 64 [.int .i64 k, .int .i64 B, .int .i64 T, .int .i64 M, .int .i64 C] (.int .i64 T) _ HB HL13 (by kernel_rfl) rfl (by kernel_rfl) rfl rfl Tryd.underlying2 rfl ?_
            refine ax_val (v := .pointer (some ⟨g1, 1, none⟩)) (.pointer (some ⟨g1, 1, none⟩)) HB (by kernel_rfl) (by kernel_rfl) (rfl) ?_
            refine ax_load 2 (.tmp 29) 0 g1 1 64 [.int .i64 k, .int .i64 B, .int .i64 T, .int .i64 M, .int .i64 C] (.int .i64 B) _ HB HL13 (by kernel_rfl) rfl (by kernel_rfl) rfl rfl Tryd.underlying2 rfl ?_
            refine ax_fork (decide (B ≤ T)) HB (by kernel_rfl) (by kernel_rfl) ?_ ?_
            · intro f18
              have k18 := of_decide_eq_true f18
              refine ax_val (v := .bool true) (.bool true) HB (by kernel_rfl) (by kernel_rfl) (rfl) ?_
              refine ax_val (v := .bool true) (.bool true) HB (by kernel_rfl) (by kernel_rfl) (rfl) ?_
              refine ax_pass  HB (by kernel_rfl) ?_
              refine ax_pass  HB (by kernel_rfl) ?_
              refine ax_pass  HB (by kernel_rfl) ?_
              refine ax_pass  HB (by kernel_rfl) ?_
              refine ax_pass  HB (by kernel_rfl) ?_
              refine ax_pass  HB (by kernel_rfl) ?_
              refine ax_pass  HB (by kernel_rfl) ?_
              refine ax_pass  HB (by kernel_rfl) ?_
              refine ax_pass  HB (by kernel_rfl) ?_
              refine ax_pass  HB (by kernel_rfl) ?_
              refine ax_val (v := .bool true) (.bool true) HB (by kernel_rfl) (by kernel_rfl) (rfl) ?_
              refine ax_val (v := .bool true) (.bool true) HB (by kernel_rfl) (by kernel_rfl) (rfl) ?_
              refine ax_pass  HB (by kernel_rfl) ?_
              refine ax_pass  HB (by kernel_rfl) ?_
              refine ax_pass  HB (by kernel_rfl) ?_
              refine ax_pass  HB (by kernel_rfl) ?_
              refine ax_pass  HB (by kernel_rfl) ?_
              refine ax_pass  HB (by kernel_rfl) ?_
              refine ax_pass  HB (by kernel_rfl) ?_
              refine ax_val (v := .bool true) (.bool true) HB (by kernel_rfl) (by kernel_rfl) (rfl) ?_
              refine ax_val (v := .bool true) (.bool true) HB (by kernel_rfl) (by kernel_rfl) (rfl) ?_
              refine ax_pass  HB (by kernel_rfl) ?_
              refine ax_pass  HB (by kernel_rfl) ?_
              refine ax_pass  HB (by kernel_rfl) ?_
              refine ax_pass  HB (by kernel_rfl) ?_
              refine ax_pass  HB (by kernel_rfl) ?_
              refine ax_pass  HB (by kernel_rfl) ?_
              refine ax_pass  HB (by kernel_rfl) ?_
              refine ax_val (v := .bool true) (.bool true) HB (by kernel_rfl) (by kernel_rfl) (rfl) ?_
              refine aw_nil ?_
              refine aw_n_then ?_
              refine ax_yes HB (by kernel_rfl) ?_
              refine aw_seq ?_
              refine aw_reg ?_
              refine ax_val (v := .int .i64 2) (.int .i64 2) HB (by kernel_rfl) (by kernel_rfl) (rfl) ?_
              refine aw_nil ?_
              refine aw_n_then ?_
              refine aw_ret ?_
              refine aw_r_then ?_
              refine aw_end (.int .i64 2) (by kernel_rfl) (by kernel_rfl) ?_
              exact ⟨by rw [if_neg (fun hh => by have := bd_split.2 hh; omega)], HL13.bel⟩
            · intro f19
              have k19 := of_decide_eq_false f19
              refine ax_val (v := .bool false) (.bool false) HB (by kernel_rfl) (by kernel_rfl) (rfl) ?_
              refine ax_val (v := .bool false) (.bool false) HB (by kernel_rfl) (by kernel_rfl) (rfl) ?_
              refine ax_val (v := .pointer (some ⟨g1, 0, none⟩)) (.pointer (some ⟨g1, 0, none⟩)) HB (by kernel_rfl) (by kernel_rfl) (rfl) ?_
              refine ax_load 3 (.tmp 34) 0 g1 0 64 [.int .i64 k, .int .i64 B, .int .i64 T, .int .i64 M, .int .i64 C] (.int .i64 k) _ HB HL13 (by kernel_rfl) rfl (by kernel_rfl) rfl rfl Tryd.underlying3 rfl ?_
              refine ax_fork (k != 3) HB (by kernel_rfl) (by kernel_rfl) ?_ ?_
              · intro f20
                have k20 := aw_neq_t f20
                refine ax_val (v := .bool true) (.bool true) HB (by kernel_rfl) (by kernel_rfl) (rfl) ?_
                refine ax_val (v := .pointer (some ⟨g1, 2, none⟩)) (.pointer (some ⟨g1, 2, none⟩)) HB (by kernel_rfl) (by kernel_rfl) (rfl) ?_
                refine ax_load 2 (.tmp 38) 0 g1 2 64 [.int .i64 k, .int .i64 B, .int .i64 T, .int .i64 M, .int .i64 C] (.int .i64 T) _ HB HL13 (by kernel_rfl) rfl (by kernel_rfl) rfl rfl Tryd.underlying2 rfl ?_
                refine ax_val (v := .pointer (some ⟨g1, 1, none⟩)) (.pointer (some ⟨g1, 1, none⟩)) HB (by kernel_rfl) (by kernel_rfl) (rfl) ?_
                refine ax_load 2 (.tmp 40) 0 g1 1 64 [.int .i64 k, .int .i64 B, .int .i64 T, .int .i64 M, .int .i64 C] (.int .i64 B) _ HB HL13 (by kernel_rfl) rfl (by kernel_rfl) rfl rfl Tryd.underlying2 rfl ?_
                refine ax_fork (T != B) HB (by kernel_rfl) (by kernel_rfl) ?_ ?_
                · intro f22
                  have k22 := aw_neq_t f22
                  refine ax_val (v := .bool true) (.bool true) HB (by kernel_rfl) (by kernel_rfl) (rfl) ?_
                  refine ax_val (v := .bool true) (.bool true) HB (by kernel_rfl) (by kernel_rfl) (rfl) ?_
                  refine ax_val (v := .bool true) (.bool true) HB (by kernel_rfl) (by kernel_rfl) (rfl) ?_
                  refine ax_pass  HB (by kernel_rfl) ?_
                  refine ax_pass  HB (by kernel_rfl) ?_
                  refine ax_pass  HB (by kernel_rfl) ?_
                  refine ax_pass  HB (by kernel_rfl) ?_
                  refine ax_pass  HB (by kernel_rfl) ?_
                  refine ax_pass  HB (by kernel_rfl) ?_
                  refine ax_pass  HB (by kernel_rfl) ?_
                  refine ax_val (v := .bool true) (.bool true) HB (by kernel_rfl) (by kernel_rfl) (rfl) ?_
                  refine ax_val (v := .bool true) (.bool true) HB (by kernel_rfl) (by kernel_rfl) (rfl) ?_
                  refine ax_pass  HB (by kernel_rfl) ?_
                  refine ax_pass  HB (by kernel_rfl) ?_
                  refine ax_pass  HB (by kernel_rfl) ?_
                  refine ax_pass  HB (by kernel_rfl) ?_
                  refine ax_pass  HB (by kernel_rfl) ?_
                  refine ax_pass  HB (by kernel_rfl) ?_
                  refine ax_pass  HB (by kernel_rfl) ?_
                  refine ax_val (v := .bool true) (.bool true) HB (by kernel_rfl) (by kernel_rfl) (rfl) ?_
                  refine aw_nil ?_
                  refine aw_n_then ?_
                  refine ax_yes HB (by kernel_rfl) ?_
                  refine aw_seq ?_
                  refine aw_reg ?_
                  refine ax_val (v := .int .i64 2) (.int .i64 2) HB (by kernel_rfl) (by kernel_rfl) (rfl) ?_
                  refine aw_nil ?_
                  refine aw_n_then ?_
                  refine aw_ret ?_
                  refine aw_r_then ?_
                  refine aw_end (.int .i64 2) (by kernel_rfl) (by kernel_rfl) ?_
                  exact ⟨by rw [if_neg (fun hh => by have := bd_split.2 hh; omega)], HL13.bel⟩
                · intro f23
                  have k23 := aw_neq_f f23
                  refine ax_val (v := .bool false) (.bool false) HB (by kernel_rfl) (by kernel_rfl) (rfl) ?_
                  refine ax_val (v := .bool false) (.bool false) HB (by kernel_rfl) (by kernel_rfl) (rfl) ?_
                  refine ax_val (v := .bool false) (.bool false) HB (by kernel_rfl) (by kernel_rfl) (rfl) ?_
                  refine ax_val (v := .pointer (some ⟨g1, 3, none⟩)) (.pointer (some ⟨g1, 3, none⟩)) HB (by kernel_rfl) (by kernel_rfl) (rfl) ?_
                  refine ax_load 2 (.tmp 46) 0 g1 3 64 [.int .i64 k, .int .i64 B, .int .i64 T, .int .i64 M, .int .i64 C] (.int .i64 M) _ HB HL13 (by kernel_rfl) rfl (by kernel_rfl) rfl rfl Tryd.underlying2 rfl ?_
                  refine ax_val (v := .pointer (some ⟨g1, 1, none⟩)) (.pointer (some ⟨g1, 1, none⟩)) HB (by kernel_rfl) (by kernel_rfl) (rfl) ?_
                  refine ax_load 2 (.tmp 48) 0 g1 1 64 [.int .i64 k, .int .i64 B, .int .i64 T, .int .i64 M, .int .i64 C] (.int .i64 B) _ HB HL13 (by kernel_rfl) rfl (by kernel_rfl) rfl rfl Tryd.underlying2 rfl ?_
                  refine ax_val (v := .int .i64 (IntKind.i64.wrap (4 * B))) (.int .i64 (4 * B)) HB (by kernel_rfl) (by kernel_rfl) (congrArg (Value.int .i64) (IntWalk.i64_in _ (by omega))) ?_
                  refine ax_callb 87 #[.int .i64 M, .int .i64 1, .int .i64 (4 * B)] (inB M 1 (4 * B)) HB HL13 (by kernel_rfl) (by kernel_rfl) (between_any M 1 (4 * B) w12) ?_ ?_
                  · intro f26 w24 HL25
                    clear HL13
                    have k26 := inB_iff.1 f26
                    refine ax_val (v := .bool false) (.bool false) HB (by kernel_rfl) (by kernel_rfl) (rfl) ?_
                    refine ax_val (v := .bool false) (.bool false) HB (by kernel_rfl) (by kernel_rfl) (rfl) ?_
                    refine ax_val (v := .bool false) (.bool false) HB (by kernel_rfl) (by kernel_rfl) (rfl) ?_
                    refine ax_val (v := .pointer (some ⟨g1, 4, none⟩)) (.pointer (some ⟨g1, 4, none⟩)) HB (by kernel_rfl) (by kernel_rfl) (rfl) ?_
                    refine ax_load 2 (.tmp 55) 0 g1 4 64 [.int .i64 k, .int .i64 B, .int .i64 T, .int .i64 M, .int .i64 C] (.int .i64 C) _ HB HL25 (by kernel_rfl) rfl (by kernel_rfl) rfl rfl Tryd.underlying2 rfl ?_
                    refine ax_val (v := .pointer (some ⟨g1, 1, none⟩)) (.pointer (some ⟨g1, 1, none⟩)) HB (by kernel_rfl) (by kernel_rfl) (rfl) ?_
                    refine ax_load 2 (.tmp 57) 0 g1 1 64 [.int .i64 k, .int .i64 B, .int .i64 T, .int .i64 M, .int .i64 C] (.int .i64 B) _ HB HL25 (by kernel_rfl) rfl (by kernel_rfl) rfl rfl Tryd.underlying2 rfl ?_
                    refine ax_val (v := .int .i64 (IntKind.i64.wrap (4 * B))) (.int .i64 (4 * B)) HB (by kernel_rfl) (by kernel_rfl) (congrArg (Value.int .i64) (IntWalk.i64_in _ (by omega))) ?_
                    refine ax_callb 87 #[.int .i64 C, .int .i64 1, .int .i64 (4 * B)] (inB C 1 (4 * B)) HB HL25 (by kernel_rfl) (by kernel_rfl) (between_any C 1 (4 * B) w24) ?_ ?_
                    · intro f30 w28 HL29
                      clear HL25
                      have k30 := inB_iff.1 f30
                      refine ax_val (v := .bool false) (.bool false) HB (by kernel_rfl) (by kernel_rfl) (rfl) ?_
                      refine ax_val (v := .bool false) (.bool false) HB (by kernel_rfl) (by kernel_rfl) (rfl) ?_
                      refine aw_nil ?_
                      refine aw_n_then ?_
                      refine ax_no HB (by kernel_rfl) ?_
                      refine aw_skip0 ?_
                      refine aw_n_then ?_
                      refine aw_seq ?_
                      refine aw_reg ?_
                      refine ax_val (v := .int .i64 0) (.int .i64 0) HB (by kernel_rfl) (by kernel_rfl) (rfl) ?_
                      refine aw_nil ?_
                      refine aw_n_then ?_
                      refine aw_ret ?_
                      refine aw_end (.int .i64 0) (by kernel_rfl) (by kernel_rfl) ?_
                      exact ⟨by rw [if_pos (bd_split.1 (by omega))], HL29.bel⟩
                    · intro f31 w28 HL29
                      clear HL25
                      have k31 := inB_no f31
                      refine ax_val (v := .bool true) (.bool true) HB (by kernel_rfl) (by kernel_rfl) (rfl) ?_
                      refine ax_val (v := .bool true) (.bool true) HB (by kernel_rfl) (by kernel_rfl) (rfl) ?_
                      refine aw_nil ?_
                      refine aw_n_then ?_
                      refine ax_yes HB (by kernel_rfl) ?_
                      refine aw_seq ?_
                      refine aw_reg ?_
                      refine ax_val (v := .int .i64 2) (.int .i64 2) HB (by kernel_rfl) (by kernel_rfl) (rfl) ?_
                      refine aw_nil ?_
                      refine aw_n_then ?_
                      refine aw_ret ?_
                      refine aw_r_then ?_
                      refine aw_end (.int .i64 2) (by kernel_rfl) (by kernel_rfl) ?_
                      exact ⟨by rw [if_neg (fun hh => by have := bd_split.2 hh; omega)], HL29.bel⟩
                  · intro f27 w24 HL25
                    clear HL13
                    have k27 := inB_no f27
                    refine ax_val (v := .bool true) (.bool true) HB (by kernel_rfl) (by kernel_rfl) (rfl) ?_
                    refine ax_val (v := .bool true) (.bool true) HB (by kernel_rfl) (by kernel_rfl) (rfl) ?_
                    refine ax_val (v := .bool true) (.bool true) HB (by kernel_rfl) (by kernel_rfl) (rfl) ?_
                    refine ax_pass  HB (by kernel_rfl) ?_
                    refine ax_pass  HB (by kernel_rfl) ?_
                    refine ax_pass  HB (by kernel_rfl) ?_
                    refine ax_pass  HB (by kernel_rfl) ?_
                    refine ax_pass  HB (by kernel_rfl) ?_
                    refine ax_pass  HB (by kernel_rfl) ?_
                    refine ax_pass  HB (by kernel_rfl) ?_
                    refine ax_val (v := .bool true) (.bool true) HB (by kernel_rfl) (by kernel_rfl) (rfl) ?_
                    refine aw_nil ?_
                    refine aw_n_then ?_
                    refine ax_yes HB (by kernel_rfl) ?_
                    refine aw_seq ?_
                    refine aw_reg ?_
                    refine ax_val (v := .int .i64 2) (.int .i64 2) HB (by kernel_rfl) (by kernel_rfl) (rfl) ?_
                    refine aw_nil ?_
                    refine aw_n_then ?_
                    refine aw_ret ?_
                    refine aw_r_then ?_
                    refine aw_end (.int .i64 2) (by kernel_rfl) (by kernel_rfl) ?_
                    exact ⟨by rw [if_neg (fun hh => by have := bd_split.2 hh; omega)], HL25.bel⟩
              · intro f21
                have k21 := aw_neq_f f21
                refine ax_val (v := .bool false) (.bool false) HB (by kernel_rfl) (by kernel_rfl) (rfl) ?_
                refine ax_pass  HB (by kernel_rfl) ?_
                refine ax_pass  HB (by kernel_rfl) ?_
                refine ax_pass  HB (by kernel_rfl) ?_
                refine ax_pass  HB (by kernel_rfl) ?_
                refine ax_pass  HB (by kernel_rfl) ?_
                refine ax_val (v := .bool false) (.bool false) HB (by kernel_rfl) (by kernel_rfl) (rfl) ?_
                refine ax_val (v := .bool false) (.bool false) HB (by kernel_rfl) (by kernel_rfl) (rfl) ?_
                refine ax_val (v := .bool false) (.bool false) HB (by kernel_rfl) (by kernel_rfl) (rfl) ?_
                refine ax_val (v := .pointer (some ⟨g1, 3, none⟩)) (.pointer (some ⟨g1, 3, none⟩)) HB (by kernel_rfl) (by kernel_rfl) (rfl) ?_
                refine ax_load 2 (.tmp 46) 0 g1 3 64 [.int .i64 k, .int .i64 B, .int .i64 T, .int .i64 M, .int .i64 C] (.int .i64 M) _ HB HL13 (by kernel_rfl) rfl (by kernel_rfl) rfl rfl Tryd.underlying2 rfl ?_
                refine ax_val (v := .pointer (some ⟨g1, 1, none⟩)) (.pointer (some ⟨g1, 1, none⟩)) HB (by kernel_rfl) (by kernel_rfl) (rfl) ?_
                refine ax_load 2 (.tmp 48) 0 g1 1 64 [.int .i64 k, .int .i64 B, .int .i64 T, .int .i64 M, .int .i64 C] (.int .i64 B) _ HB HL13 (by kernel_rfl) rfl (by kernel_rfl) rfl rfl Tryd.underlying2 rfl ?_
                refine ax_val (v := .int .i64 (IntKind.i64.wrap (4 * B))) (.int .i64 (4 * B)) HB (by kernel_rfl) (by kernel_rfl) (congrArg (Value.int .i64) (IntWalk.i64_in _ (by omega))) ?_
                refine ax_callb 87 #[.int .i64 M, .int .i64 1, .int .i64 (4 * B)] (inB M 1 (4 * B)) HB HL13 (by kernel_rfl) (by kernel_rfl) (between_any M 1 (4 * B) w12) ?_ ?_
                · intro f34 w32 HL33
                  clear HL13
                  have k34 := inB_iff.1 f34
                  refine ax_val (v := .bool false) (.bool false) HB (by kernel_rfl) (by kernel_rfl) (rfl) ?_
                  refine ax_val (v := .bool false) (.bool false) HB (by kernel_rfl) (by kernel_rfl) (rfl) ?_
                  refine ax_val (v := .bool false) (.bool false) HB (by kernel_rfl) (by kernel_rfl) (rfl) ?_
                  refine ax_val (v := .pointer (some ⟨g1, 4, none⟩)) (.pointer (some ⟨g1, 4, none⟩)) HB (by kernel_rfl) (by kernel_rfl) (rfl) ?_
                  refine ax_load 2 (.tmp 55) 0 g1 4 64 [.int .i64 k, .int .i64 B, .int .i64 T, .int .i64 M, .int .i64 C] (.int .i64 C) _ HB HL33 (by kernel_rfl) rfl (by kernel_rfl) rfl rfl Tryd.underlying2 rfl ?_
                  refine ax_val (v := .pointer (some ⟨g1, 1, none⟩)) (.pointer (some ⟨g1, 1, none⟩)) HB (by kernel_rfl) (by kernel_rfl) (rfl) ?_
                  refine ax_load 2 (.tmp 57) 0 g1 1 64 [.int .i64 k, .int .i64 B, .int .i64 T, .int .i64 M, .int .i64 C] (.int .i64 B) _ HB HL33 (by kernel_rfl) rfl (by kernel_rfl) rfl rfl Tryd.underlying2 rfl ?_
                  refine ax_val (v := .int .i64 (IntKind.i64.wrap (4 * B))) (.int .i64 (4 * B)) HB (by kernel_rfl) (by kernel_rfl) (congrArg (Value.int .i64) (IntWalk.i64_in _ (by omega))) ?_
                  refine ax_callb 87 #[.int .i64 C, .int .i64 1, .int .i64 (4 * B)] (inB C 1 (4 * B)) HB HL33 (by kernel_rfl) (by kernel_rfl) (between_any C 1 (4 * B) w32) ?_ ?_
                  · intro f38 w36 HL37
                    clear HL33
                    have k38 := inB_iff.1 f38
                    refine ax_val (v := .bool false) (.bool false) HB (by kernel_rfl) (by kernel_rfl) (rfl) ?_
                    refine ax_val (v := .bool false) (.bool false) HB (by kernel_rfl) (by kernel_rfl) (rfl) ?_
                    refine aw_nil ?_
                    refine aw_n_then ?_
                    refine ax_no HB (by kernel_rfl) ?_
                    refine aw_skip0 ?_
                    refine aw_n_then ?_
                    refine aw_seq ?_
                    refine aw_reg ?_
                    refine ax_val (v := .int .i64 0) (.int .i64 0) HB (by kernel_rfl) (by kernel_rfl) (rfl) ?_
                    refine aw_nil ?_
                    refine aw_n_then ?_
                    refine aw_ret ?_
                    refine aw_end (.int .i64 0) (by kernel_rfl) (by kernel_rfl) ?_
                    exact ⟨by rw [if_pos (bd_split.1 (by omega))], HL37.bel⟩
                  · intro f39 w36 HL37
                    clear HL33
                    have k39 := inB_no f39
                    refine ax_val (v := .bool true) (.bool true) HB (by kernel_rfl) (by kernel_rfl) (rfl) ?_
                    refine ax_val (v := .bool true) (.bool true) HB (by kernel_rfl) (by kernel_rfl) (rfl) ?_
                    refine aw_nil ?_
                    refine aw_n_then ?_
                    refine ax_yes HB (by kernel_rfl) ?_
                    refine aw_seq ?_
                    refine aw_reg ?_
                    refine ax_val (v := .int .i64 2) (.int .i64 2) HB (by kernel_rfl) (by kernel_rfl) (rfl) ?_
                    refine aw_nil ?_
                    refine aw_n_then ?_
                    refine aw_ret ?_
                    refine aw_r_then ?_
                    refine aw_end (.int .i64 2) (by kernel_rfl) (by kernel_rfl) ?_
                    exact ⟨by rw [if_neg (fun hh => by have := bd_split.2 hh; omega)], HL37.bel⟩
                · intro f35 w32 HL33
                  clear HL13
                  have k35 := inB_no f35
                  refine ax_val (v := .bool true) (.bool true) HB (by kernel_rfl) (by kernel_rfl) (rfl) ?_
                  refine ax_val (v := .bool true) (.bool true) HB (by kernel_rfl) (by kernel_rfl) (rfl) ?_
                  refine ax_val (v := .bool true) (.bool true) HB (by kernel_rfl) (by kernel_rfl) (rfl) ?_
                  refine ax_pass  HB (by kernel_rfl) ?_
                  refine ax_pass  HB (by kernel_rfl) ?_
                  refine ax_pass  HB (by kernel_rfl) ?_
                  refine ax_pass  HB (by kernel_rfl) ?_
                  refine ax_pass  HB (by kernel_rfl) ?_
                  refine ax_pass  HB (by kernel_rfl) ?_
                  refine ax_pass  HB (by kernel_rfl) ?_
                  refine ax_val (v := .bool true) (.bool true) HB (by kernel_rfl) (by kernel_rfl) (rfl) ?_
                  refine aw_nil ?_
                  refine aw_n_then ?_
                  refine ax_yes HB (by kernel_rfl) ?_
                  refine aw_seq ?_
                  refine aw_reg ?_
                  refine ax_val (v := .int .i64 2) (.int .i64 2) HB (by kernel_rfl) (by kernel_rfl) (rfl) ?_
                  refine aw_nil ?_
                  refine aw_n_then ?_
                  refine aw_ret ?_
                  refine aw_r_then ?_
                  refine aw_end (.int .i64 2) (by kernel_rfl) (by kernel_rfl) ?_
                  exact ⟨by rw [if_neg (fun hh => by have := bd_split.2 hh; omega)], HL33.bel⟩
          · intro f17
            have k17 := ne_of_beq_false f17
            refine ax_val (v := .bool false) (.bool false) HB (by kernel_rfl) (by kernel_rfl) (rfl) ?_
            refine ax_pass  HB (by kernel_rfl) ?_
            refine ax_pass  HB (by kernel_rfl) ?_
            refine ax_pass  HB (by kernel_rfl) ?_
            refine ax_pass  HB (by kernel_rfl) ?_
            refine ax_pass  HB (by kernel_rfl) ?_
            refine ax_val (v := .bool false) (.bool false) HB (by kernel_rfl) (by kernel_rfl) (rfl) ?_
            refine ax_val (v := .bool false) (.bool false) HB (by kernel_rfl) (by kernel_rfl) (rfl) ?_
            refine ax_val (v := .pointer (some ⟨g1, 0, none⟩)) (.pointer (some ⟨g1, 0, none⟩)) HB (by kernel_rfl) (by kernel_rfl) (rfl) ?_
            refine ax_load 3 (.tmp 34) 0 g1 0 64 [.int .i64 k, .int .i64 B, .int .i64 T, .int .i64 M, .int .i64 C] (.int .i64 k) _ HB HL13 (by kernel_rfl) rfl (by kernel_rfl) rfl rfl Tryd.underlying3 rfl ?_
            refine ax_fork (k != 3) HB (by kernel_rfl) (by kernel_rfl) ?_ ?_
            · intro f40
              have k40 := aw_neq_t f40
              refine ax_val (v := .bool true) (.bool true) HB (by kernel_rfl) (by kernel_rfl) (rfl) ?_
              refine ax_val (v := .pointer (some ⟨g1, 2, none⟩)) (.pointer (some ⟨g1, 2, none⟩)) HB (by kernel_rfl) (by kernel_rfl) (rfl) ?_
              refine ax_load 2 (.tmp 38) 0 g1 2 64 [.int .i64 k, .int .i64 B, .int .i64 T, .int .i64 M, .int .i64 C] (.int .i64 T) _ HB HL13 (by kernel_rfl) rfl (by kernel_rfl) rfl rfl Tryd.underlying2 rfl ?_
              refine ax_val (v := .pointer (some ⟨g1, 1, none⟩)) (.pointer (some ⟨g1, 1, none⟩)) HB (by kernel_rfl) (by kernel_rfl) (rfl) ?_
              refine ax_load 2 (.tmp 40) 0 g1 1 64 [.int .i64 k, .int .i64 B, .int .i64 T, .int .i64 M, .int .i64 C] (.int .i64 B) _ HB HL13 (by kernel_rfl) rfl (by kernel_rfl) rfl rfl Tryd.underlying2 rfl ?_
              refine ax_fork (T != B) HB (by kernel_rfl) (by kernel_rfl) ?_ ?_
              · intro f42
                have k42 := aw_neq_t f42
                refine ax_val (v := .bool true) (.bool true) HB (by kernel_rfl) (by kernel_rfl) (rfl) ?_
                refine ax_val (v := .bool true) (.bool true) HB (by kernel_rfl) (by kernel_rfl) (rfl) ?_
                refine ax_val (v := .bool true) (.bool true) HB (by kernel_rfl) (by kernel_rfl) (rfl) ?_
                refine ax_pass  HB (by kernel_rfl) ?_
                refine ax_pass  HB (by kernel_rfl) ?_
                refine ax_pass  HB (by kernel_rfl) ?_
                refine ax_pass  HB (by kernel_rfl) ?_
                refine ax_pass  HB (by kernel_rfl) ?_
                refine ax_pass  HB (by kernel_rfl) ?_
                refine ax_pass  HB (by kernel_rfl) ?_
                refine ax_val (v := .bool true) (.bool true) HB (by kernel_rfl) (by kernel_rfl) (rfl) ?_
                refine ax_val (v := .bool true) (.bool true) HB (by kernel_rfl) (by kernel_rfl) (rfl) ?_
                refine ax_pass  HB (by kernel_rfl) ?_
                refine ax_pass  HB (by kernel_rfl) ?_
                refine ax_pass  HB (by kernel_rfl) ?_
                refine ax_pass  HB (by kernel_rfl) ?_
                refine ax_pass  HB (by kernel_rfl) ?_
                refine ax_pass  HB (by kernel_rfl) ?_
                refine ax_pass  HB (by kernel_rfl) ?_
                refine ax_val (v := .bool true) (.bool true) HB (by kernel_rfl) (by kernel_rfl) (rfl) ?_
                refine aw_nil ?_
                refine aw_n_then ?_
                refine ax_yes HB (by kernel_rfl) ?_
                refine aw_seq ?_
                refine aw_reg ?_
                refine ax_val (v := .int .i64 2) (.int .i64 2) HB (by kernel_rfl) (by kernel_rfl) (rfl) ?_
                refine aw_nil ?_
                refine aw_n_then ?_
                refine aw_ret ?_
                refine aw_r_then ?_
                refine aw_end (.int .i64 2) (by kernel_rfl) (by kernel_rfl) ?_
                exact ⟨by rw [if_neg (fun hh => by have := bd_split.2 hh; omega)], HL13.bel⟩
              · intro f43
                have k43 := aw_neq_f f43
                refine ax_val (v := .bool false) (.bool false) HB (by kernel_rfl) (by kernel_rfl) (rfl) ?_
                refine ax_val (v := .bool false) (.bool false) HB (by kernel_rfl) (by kernel_rfl) (rfl) ?_
                refine ax_val (v := .bool false) (.bool false) HB (by kernel_rfl) (by kernel_rfl) (rfl) ?_
                refine ax_val (v := .pointer (some ⟨g1, 3, none⟩)) (.pointer (some ⟨g1, 3, none⟩)) HB (by kernel_rfl) (by kernel_rfl) (rfl) ?_
                refine ax_load 2 (.tmp 46) 0 g1 3 64 [.int .i64 k, .int .i64 B, .int .i64 T, .int .i64 M, .int .i64 C] (.int .i64 M) _ HB HL13 (by kernel_rfl) rfl (by kernel_rfl) rfl rfl Tryd.underlying2 rfl ?_
                refine ax_val (v := .pointer (some ⟨g1, 1, none⟩)) (.pointer (some ⟨g1, 1, none⟩)) HB (by kernel_rfl) (by kernel_rfl) (rfl) ?_
                refine ax_load 2 (.tmp 48) 0 g1 1 64 [.int .i64 k, .int .i64 B, .int .i64 T, .int .i64 M, .int .i64 C] (.int .i64 B) _ HB HL13 (by kernel_rfl) rfl (by kernel_rfl) rfl rfl Tryd.underlying2 rfl ?_
                refine ax_val (v := .int .i64 (IntKind.i64.wrap (4 * B))) (.int .i64 (4 * B)) HB (by kernel_rfl) (by kernel_rfl) (congrArg (Value.int .i64) (IntWalk.i64_in _ (by omega))) ?_
                refine ax_callb 87 #[.int .i64 M, .int .i64 1, .int .i64 (4 * B)] (inB M 1 (4 * B)) HB HL13 (by kernel_rfl) (by kernel_rfl) (between_any M 1 (4 * B) w12) ?_ ?_
                · intro f46 w44 HL45
                  clear HL13
                  have k46 := inB_iff.1 f46
                  refine ax_val (v := .bool false) (.bool false) HB (by kernel_rfl) (by kernel_rfl) (rfl) ?_
                  refine ax_val (v := .bool false) (.bool false) HB (by kernel_rfl) (by kernel_rfl) (rfl) ?_
                  refine ax_val (v := .bool false) (.bool false) HB (by kernel_rfl) (by kernel_rfl) (rfl) ?_
                  refine ax_val (v := .pointer (some ⟨g1, 4, none⟩)) (.pointer (some ⟨g1, 4, none⟩)) HB (by kernel_rfl) (by kernel_rfl) (rfl) ?_
                  refine ax_load 2 (.tmp 55) 0 g1 4 64 [.int .i64 k, .int .i64 B, .int .i64 T, .int .i64 M, .int .i64 C] (.int .i64 C) _ HB HL45 (by kernel_rfl) rfl (by kernel_rfl) rfl rfl Tryd.underlying2 rfl ?_
                  refine ax_val (v := .pointer (some ⟨g1, 1, none⟩)) (.pointer (some ⟨g1, 1, none⟩)) HB (by kernel_rfl) (by kernel_rfl) (rfl) ?_
                  refine ax_load 2 (.tmp 57) 0 g1 1 64 [.int .i64 k, .int .i64 B, .int .i64 T, .int .i64 M, .int .i64 C] (.int .i64 B) _ HB HL45 (by kernel_rfl) rfl (by kernel_rfl) rfl rfl Tryd.underlying2 rfl ?_
                  refine ax_val (v := .int .i64 (IntKind.i64.wrap (4 * B))) (.int .i64 (4 * B)) HB (by kernel_rfl) (by kernel_rfl) (congrArg (Value.int .i64) (IntWalk.i64_in _ (by omega))) ?_
                  refine ax_callb 87 #[.int .i64 C, .int .i64 1, .int .i64 (4 * B)] (inB C 1 (4 * B)) HB HL45 (by kernel_rfl) (by kernel_rfl) (between_any C 1 (4 * B) w44) ?_ ?_
                  · intro f50 w48 HL49
                    clear HL45
                    have k50 := inB_iff.1 f50
                    refine ax_val (v := .bool false) (.bool false) HB (by kernel_rfl) (by kernel_rfl) (rfl) ?_
                    refine ax_val (v := .bool false) (.bool false) HB (by kernel_rfl) (by kernel_rfl) (rfl) ?_
                    refine aw_nil ?_
                    refine aw_n_then ?_
                    refine ax_no HB (by kernel_rfl) ?_
                    refine aw_skip0 ?_
                    refine aw_n_then ?_
                    refine aw_seq ?_
                    refine aw_reg ?_
                    refine ax_val (v := .int .i64 0) (.int .i64 0) HB (by kernel_rfl) (by kernel_rfl) (rfl) ?_
                    refine aw_nil ?_
                    refine aw_n_then ?_
                    refine aw_ret ?_
                    refine aw_end (.int .i64 0) (by kernel_rfl) (by kernel_rfl) ?_
                    exact ⟨by rw [if_pos (bd_split.1 (by omega))], HL49.bel⟩
                  · intro f51 w48 HL49
                    clear HL45
                    have k51 := inB_no f51
                    refine ax_val (v := .bool true) (.bool true) HB (by kernel_rfl) (by kernel_rfl) (rfl) ?_
                    refine ax_val (v := .bool true) (.bool true) HB (by kernel_rfl) (by kernel_rfl) (rfl) ?_
                    refine aw_nil ?_
                    refine aw_n_then ?_
                    refine ax_yes HB (by kernel_rfl) ?_
                    refine aw_seq ?_
                    refine aw_reg ?_
                    refine ax_val (v := .int .i64 2) (.int .i64 2) HB (by kernel_rfl) (by kernel_rfl) (rfl) ?_
                    refine aw_nil ?_
                    refine aw_n_then ?_
                    refine aw_ret ?_
                    refine aw_r_then ?_
                    refine aw_end (.int .i64 2) (by kernel_rfl) (by kernel_rfl) ?_
                    exact ⟨by rw [if_neg (fun hh => by have := bd_split.2 hh; omega)], HL49.bel⟩
                · intro f47 w44 HL45
                  clear HL13
                  have k47 := inB_no f47
                  refine ax_val (v := .bool true) (.bool true) HB (by kernel_rfl) (by kernel_rfl) (rfl) ?_
                  refine ax_val (v := .bool true) (.bool true) HB (by kernel_rfl) (by kernel_rfl) (rfl) ?_
                  refine ax_val (v := .bool true) (.bool true) HB (by kernel_rfl) (by kernel_rfl) (rfl) ?_
                  refine ax_pass  HB (by kernel_rfl) ?_
                  refine ax_pass  HB (by kernel_rfl) ?_
                  refine ax_pass  HB (by kernel_rfl) ?_
                  refine ax_pass  HB (by kernel_rfl) ?_
                  refine ax_pass  HB (by kernel_rfl) ?_
                  refine ax_pass  HB (by kernel_rfl) ?_
                  refine ax_pass  HB (by kernel_rfl) ?_
                  refine ax_val (v := .bool true) (.bool true) HB (by kernel_rfl) (by kernel_rfl) (rfl) ?_
                  refine aw_nil ?_
                  refine aw_n_then ?_
                  refine ax_yes HB (by kernel_rfl) ?_
                  refine aw_seq ?_
                  refine aw_reg ?_
                  refine ax_val (v := .int .i64 2) (.int .i64 2) HB (by kernel_rfl) (by kernel_rfl) (rfl) ?_
                  refine aw_nil ?_
                  refine aw_n_then ?_
                  refine aw_ret ?_
                  refine aw_r_then ?_
                  refine aw_end (.int .i64 2) (by kernel_rfl) (by kernel_rfl) ?_
                  exact ⟨by rw [if_neg (fun hh => by have := bd_split.2 hh; omega)], HL45.bel⟩
            · intro f41
              have k41 := aw_neq_f f41
              refine ax_val (v := .bool false) (.bool false) HB (by kernel_rfl) (by kernel_rfl) (rfl) ?_
              refine ax_pass  HB (by kernel_rfl) ?_
              refine ax_pass  HB (by kernel_rfl) ?_
              refine ax_pass  HB (by kernel_rfl) ?_
              refine ax_pass  HB (by kernel_rfl) ?_
              refine ax_pass  HB (by kernel_rfl) ?_
              refine ax_val (v := .bool false) (.bool false) HB (by kernel_rfl) (by kernel_rfl) (rfl) ?_
              refine ax_val (v := .bool false) (.bool false) HB (by kernel_rfl) (by kernel_rfl) (rfl) ?_
              refine ax_val (v := .bool false) (.bool false) HB (by kernel_rfl) (by kernel_rfl) (rfl) ?_
              refine ax_val (v := .pointer (some ⟨g1, 3, none⟩)) (.pointer (some ⟨g1, 3, none⟩)) HB (by kernel_rfl) (by kernel_rfl) (rfl) ?_
              refine ax_load 2 (.tmp 46) 0 g1 3 64 [.int .i64 k, .int .i64 B, .int .i64 T, .int .i64 M, .int .i64 C] (.int .i64 M) _ HB HL13 (by kernel_rfl) rfl (by kernel_rfl) rfl rfl Tryd.underlying2 rfl ?_
              refine ax_val (v := .pointer (some ⟨g1, 1, none⟩)) (.pointer (some ⟨g1, 1, none⟩)) HB (by kernel_rfl) (by kernel_rfl) (rfl) ?_
              refine ax_load 2 (.tmp 48) 0 g1 1 64 [.int .i64 k, .int .i64 B, .int .i64 T, .int .i64 M, .int .i64 C] (.int .i64 B) _ HB HL13 (by kernel_rfl) rfl (by kernel_rfl) rfl rfl Tryd.underlying2 rfl ?_
              refine ax_val (v := .int .i64 (IntKind.i64.wrap (4 * B))) (.int .i64 (4 * B)) HB (by kernel_rfl) (by kernel_rfl) (congrArg (Value.int .i64) (IntWalk.i64_in _ (by omega))) ?_
              refine ax_callb 87 #[.int .i64 M, .int .i64 1, .int .i64 (4 * B)] (inB M 1 (4 * B)) HB HL13 (by kernel_rfl) (by kernel_rfl) (between_any M 1 (4 * B) w12) ?_ ?_
              · intro f54 w52 HL53
                clear HL13
                have k54 := inB_iff.1 f54
                refine ax_val (v := .bool false) (.bool false) HB (by kernel_rfl) (by kernel_rfl) (rfl) ?_
                refine ax_val (v := .bool false) (.bool false) HB (by kernel_rfl) (by kernel_rfl) (rfl) ?_
                refine ax_val (v := .bool false) (.bool false) HB (by kernel_rfl) (by kernel_rfl) (rfl) ?_
                refine ax_val (v := .pointer (some ⟨g1, 4, none⟩)) (.pointer (some ⟨g1, 4, none⟩)) HB (by kernel_rfl) (by kernel_rfl) (rfl) ?_
                refine ax_load 2 (.tmp 55) 0 g1 4 64 [.int .i64 k, .int .i64 B, .int .i64 T, .int .i64 M, .int .i64 C] (.int .i64 C) _ HB HL53 (by kernel_rfl) rfl (by kernel_rfl) rfl rfl Tryd.underlying2 rfl ?_
                refine ax_val (v := .pointer (some ⟨g1, 1, none⟩)) (.pointer (some ⟨g1, 1, none⟩)) HB (by kernel_rfl) (by kernel_rfl) (rfl) ?_
                refine ax_load 2 (.tmp 57) 0 g1 1 64 [.int .i64 k, .int .i64 B, .int .i64 T, .int .i64 M, .int .i64 C] (.int .i64 B) _ HB HL53 (by kernel_rfl) rfl (by kernel_rfl) rfl rfl Tryd.underlying2 rfl ?_
                refine ax_val (v := .int .i64 (IntKind.i64.wrap (4 * B))) (.int .i64 (4 * B)) HB (by kernel_rfl) (by kernel_rfl) (congrArg (Value.int .i64) (IntWalk.i64_in _ (by omega))) ?_
                refine ax_callb 87 #[.int .i64 C, .int .i64 1, .int .i64 (4 * B)] (inB C 1 (4 * B)) HB HL53 (by kernel_rfl) (by kernel_rfl) (between_any C 1 (4 * B) w52) ?_ ?_
                · intro f58 w56 HL57
                  clear HL53
                  have k58 := inB_iff.1 f58
                  refine ax_val (v := .bool false) (.bool false) HB (by kernel_rfl) (by kernel_rfl) (rfl) ?_
                  refine ax_val (v := .bool false) (.bool false) HB (by kernel_rfl) (by kernel_rfl) (rfl) ?_
                  refine aw_nil ?_
                  refine aw_n_then ?_
                  refine ax_no HB (by kernel_rfl) ?_
                  refine aw_skip0 ?_
                  refine aw_n_then ?_
                  refine aw_seq ?_
                  refine aw_reg ?_
                  refine ax_val (v := .int .i64 0) (.int .i64 0) HB (by kernel_rfl) (by kernel_rfl) (rfl) ?_
                  refine aw_nil ?_
                  refine aw_n_then ?_
                  refine aw_ret ?_
                  refine aw_end (.int .i64 0) (by kernel_rfl) (by kernel_rfl) ?_
                  exact ⟨by rw [if_pos (bd_split.1 (by omega))], HL57.bel⟩
                · intro f59 w56 HL57
                  clear HL53
                  have k59 := inB_no f59
                  refine ax_val (v := .bool true) (.bool true) HB (by kernel_rfl) (by kernel_rfl) (rfl) ?_
                  refine ax_val (v := .bool true) (.bool true) HB (by kernel_rfl) (by kernel_rfl) (rfl) ?_
                  refine aw_nil ?_
                  refine aw_n_then ?_
                  refine ax_yes HB (by kernel_rfl) ?_
                  refine aw_seq ?_
                  refine aw_reg ?_
                  refine ax_val (v := .int .i64 2) (.int .i64 2) HB (by kernel_rfl) (by kernel_rfl) (rfl) ?_
                  refine aw_nil ?_
                  refine aw_n_then ?_
                  refine aw_ret ?_
                  refine aw_r_then ?_
                  refine aw_end (.int .i64 2) (by kernel_rfl) (by kernel_rfl) ?_
                  exact ⟨by rw [if_neg (fun hh => by have := bd_split.2 hh; omega)], HL57.bel⟩
              · intro f55 w52 HL53
                clear HL13
                have k55 := inB_no f55
                refine ax_val (v := .bool true) (.bool true) HB (by kernel_rfl) (by kernel_rfl) (rfl) ?_
                refine ax_val (v := .bool true) (.bool true) HB (by kernel_rfl) (by kernel_rfl) (rfl) ?_
                refine ax_val (v := .bool true) (.bool true) HB (by kernel_rfl) (by kernel_rfl) (rfl) ?_
                refine ax_pass  HB (by kernel_rfl) ?_
                refine ax_pass  HB (by kernel_rfl) ?_
                refine ax_pass  HB (by kernel_rfl) ?_
                refine ax_pass  HB (by kernel_rfl) ?_
                refine ax_pass  HB (by kernel_rfl) ?_
                refine ax_pass  HB (by kernel_rfl) ?_
                refine ax_pass  HB (by kernel_rfl) ?_
                refine ax_val (v := .bool true) (.bool true) HB (by kernel_rfl) (by kernel_rfl) (rfl) ?_
                refine aw_nil ?_
                refine aw_n_then ?_
                refine ax_yes HB (by kernel_rfl) ?_
                refine aw_seq ?_
                refine aw_reg ?_
                refine ax_val (v := .int .i64 2) (.int .i64 2) HB (by kernel_rfl) (by kernel_rfl) (rfl) ?_
                refine aw_nil ?_
                refine aw_n_then ?_
                refine aw_ret ?_
                refine aw_r_then ?_
                refine aw_end (.int .i64 2) (by kernel_rfl) (by kernel_rfl) ?_
                exact ⟨by rw [if_neg (fun hh => by have := bd_split.2 hh; omega)], HL53.bel⟩
        · intro f15 w12 HL13
          clear HL9
          have k15 := inB_no f15
          refine ax_val (v := .bool true) (.bool true) HB (by kernel_rfl) (by kernel_rfl) (rfl) ?_
          refine ax_val (v := .bool true) (.bool true) HB (by kernel_rfl) (by kernel_rfl) (rfl) ?_
          refine aw_nil ?_
          refine aw_n_then ?_
          refine ax_yes HB (by kernel_rfl) ?_
          refine aw_seq ?_
          refine aw_reg ?_
          refine ax_val (v := .int .i64 2) (.int .i64 2) HB (by kernel_rfl) (by kernel_rfl) (rfl) ?_
          refine aw_nil ?_
          refine aw_n_then ?_
          refine aw_ret ?_
          refine aw_r_then ?_
          refine aw_end (.int .i64 2) (by kernel_rfl) (by kernel_rfl) ?_
          exact ⟨by rw [if_neg (fun hh => by have := bd_split.2 hh; omega)], HL13.bel⟩
      · intro f11 w8 HL9
        clear HL3
        have k11 := inB_no f11
        refine ax_val (v := .bool true) (.bool true) HB (by kernel_rfl) (by kernel_rfl) (rfl) ?_
        refine ax_val (v := .bool true) (.bool true) HB (by kernel_rfl) (by kernel_rfl) (rfl) ?_
        refine ax_val (v := .bool true) (.bool true) HB (by kernel_rfl) (by kernel_rfl) (rfl) ?_
        refine ax_pass  HB (by kernel_rfl) ?_
        refine ax_pass  HB (by kernel_rfl) ?_
        refine ax_pass  HB (by kernel_rfl) ?_
        refine ax_pass  HB (by kernel_rfl) ?_
        refine ax_val (v := .bool true) (.bool true) HB (by kernel_rfl) (by kernel_rfl) (rfl) ?_
        refine aw_nil ?_
        refine aw_n_then ?_
        refine ax_yes HB (by kernel_rfl) ?_
        refine aw_seq ?_
        refine aw_reg ?_
        refine ax_val (v := .int .i64 2) (.int .i64 2) HB (by kernel_rfl) (by kernel_rfl) (rfl) ?_
        refine aw_nil ?_
        refine aw_n_then ?_
        refine aw_ret ?_
        refine aw_r_then ?_
        refine aw_end (.int .i64 2) (by kernel_rfl) (by kernel_rfl) ?_
        exact ⟨by rw [if_neg (fun hh => by have := bd_split.2 hh; omega)], HL9.bel⟩

theorem or_of {a b c : Prop} (h : a → b → c) : ¬ a ∨ ¬ b ∨ c := by
  by_cases x : a
  · by_cases y : b
    · exact .inr (.inr (h x y))
    · exact .inr (.inl y)
  · exact .inl x
theorem or_of1 {a c : Prop} (h : a → c) : ¬ a ∨ c := by
  by_cases x : a
  · exact .inr (h x)
  · exact .inl x
/-- All that the law asks. -/
theorem rise_all (k B T M C x y t b : Int) (hb : 0 ≤ b) : ∃ la lw pa pw ly py lm pm, lenV (spdE t) k B T M C (x, y) = la ∧ lenV (spdE (min (t + b) 50000)) k B T M C (x, y) = lw ∧ pitV (spdE t) k B T M C (x, y) = pa ∧ pitV (spdE (min (t + b) 50000)) k B T M C (x, y) = pw ∧ lenV (spdE t) k B T M C (x + b, y + b) = ly ∧ pitV (spdE t) k B T M C (x + b, y + b) = py ∧ lenV (spdE t) k B T M C (x + ((y - x) / 2), x + ((y - x) / 2)) = lm ∧ pitV (spdE t) k B T M C (x + ((y - x) / 2), x + ((y - x) / 2)) = pm ∧ (50000 < t ∨ ¬ la.2 = 0 ∨ ¬ lw.2 = 0 ∨ (la.1.1 ≤ lw.1.1 ∧ la.1.2 ≤ lw.1.2)) ∧ (50000 < t ∨ ¬ pa.2 = 0 ∨ ¬ pw.2 = 0 ∨ (pa.1.1 ≤ pw.1.1 ∧ pa.1.2 ≤ pw.1.2)) ∧ (¬ la.2 = 0 ∨ ¬ ly.2 = 0 ∨ (ly.1.1 ≤ la.1.1 ∧ ly.1.2 ≤ la.1.2)) ∧ (¬ pa.2 = 0 ∨ ¬ py.2 = 0 ∨ (py.1.1 ≤ pa.1.1 ∧ py.1.2 ≤ pa.1.2)) ∧ (y < x ∨ ¬ la.2 = 0 ∨ (lm.2 = 0 ∧ la.1.1 ≤ lm.1.1 ∧ lm.1.2 ≤ la.1.2)) ∧ (y < x ∨ ¬ pa.2 = 0 ∨ (pm.2 = 0 ∧ pa.1.1 ≤ pm.1.1 ∧ pm.1.2 ≤ pa.1.2)) := by
  refine ⟨_, _, _, _, _, _, _, _, rfl, rfl, rfl, rfl, rfl, rfl, rfl, rfl, ?_, ?_, ?_, ?_, ?_, ?_⟩
  · by_cases h : t ≤ 50000
    · exact .inr (or_of fun u v => rise_len (spd_ok _) (spd_ok _) (spd_le (by omega)) u v (Int.le_refl _) (Int.le_refl _))
    · exact .inl (by omega)
  · by_cases h : t ≤ 50000
    · exact .inr (or_of fun u v => rise_pit (spd_ok _) (spd_ok _) (spd_le (by omega)) u v (Int.le_refl _) (Int.le_refl _))
    · exact .inl (by omega)
  · exact or_of fun u v => rise_len (spd_ok _) (spd_ok _) (SpLe.refl _) v u (by show x ≤ x + b; omega) (by show y ≤ y + b; omega)
  · exact or_of fun u v => rise_pit (spd_ok _) (spd_ok _) (SpLe.refl _) v u (by show x ≤ x + b; omega) (by show y ≤ y + b; omega)
  · by_cases h : y < x
    · exact .inl h
    · exact .inr (or_of1 fun u => in_len (spd_ok _) u (by show x ≤ x + (y - x) / 2; omega) (by show x + (y - x) / 2 ≤ y; omega))
  · by_cases h : y < x
    · exact .inl h
    · exact .inr (or_of1 fun u => in_pit (spd_ok _) u (by show x ≤ x + (y - x) / 2; omega) (by show x + (y - x) / 2 ≤ y; omega))
end Go.Proofs.YtmbcejldifobnaaDoor.Ln
