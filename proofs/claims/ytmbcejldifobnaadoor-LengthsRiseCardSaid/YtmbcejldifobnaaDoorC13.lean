import Derived.Test.YtmbcejldifobnaaDoorC12
import Derived.Test.YtmbcejldifobnaaDoorC11
import Derived.Test.YtmbcejldifobnaaDoorC10
namespace Go.Proofs.YtmbcejldifobnaaDoor.Ln
open Go.RowKit Tp Sp
set_option maxRecDepth 100000 in
set_option maxHeartbeats 2000000 in
theorem or_any (g : Nat) (x y : Int) (w : World) (hg : g < w.heap.size) (h0 : w.cell? ⟨g, 0, none⟩ = some (.int .i64 x)) (h1 : w.cell? ⟨g, 1, none⟩ = some (.int .i64 y)) : Calls Tryd.prog 168 #[.slice (some ⟨g, 0, none⟩) 2 2] w fun r w' => r = .returned (.int .i64 (if x = 0 then y else x)) ∧ Below w.heap.size w w' := by
  refine calls_of_wp Tryd.func168 rfl ?_
  refine Boxw.out (ax_in ?_)
  have HB : Array.size ((#[.slice (some ⟨g, 0, none⟩) 2 2] : Array Value) ++ Array.replicate (Func.ntmps Tryd.f168 - Array.size (#[.slice (some ⟨g, 0, none⟩) 2 2] : Array Value)) undef) = 18 := by kernel_rfl
  have HL0 := Loc.start w
  refine aw_seq ?_
  refine aw_reg ?_
  refine ax_val (v := .int .i64 0) (.int .i64 0) HB (by kernel_rfl) (by kernel_rfl) (rfl) ?_
  refine aw_nil ?_
  refine aw_n_then ?_
  refine aw_seq ?_
  refine aw_reg ?_
  refine ax_val (v := .int .i64 0) (.int .i64 0) HB (by kernel_rfl) (by kernel_rfl) (rfl) ?_
  refine aw_nil ?_
  refine aw_n_then ?_
  refine aw_seq ?_
  refine aw_seq ?_
  refine aw_reg ?_
  refine ax_val (v := .slice (some ⟨g, 0, none⟩) 2 2) (.slice (some ⟨g, 0, none⟩) 2 2) HB (by kernel_rfl) (by kernel_rfl) (rfl) ?_
  refine ax_val (v := .int .i64 2) (.int .i64 2) HB (by kernel_rfl) (by kernel_rfl) (rfl) ?_
  refine ax_val (v := .int .i64 0) (.int .i64 0) HB (by kernel_rfl) (by kernel_rfl) (rfl) ?_
  refine aw_nil ?_
  refine aw_n_then ?_
  refine aw_block ?_
  refine aw_unroll 3 ?_
  refine aw_urnd (n := 2) ?_
  refine aw_seq ?_
  refine aw_reg ?_
  refine ax_val (v := .bool true) (.bool true) HB (by kernel_rfl) (by kernel_rfl) (rfl) ?_
  refine aw_nil ?_
  refine aw_n_then ?_
  refine aw_seq ?_
  refine ax_yes HB (by kernel_rfl) ?_
  refine aw_skip0 ?_
  refine aw_n_then ?_
  refine aw_seq ?_
  refine aw_block ?_
  refine aw_seq ?_
  refine aw_reg ?_
  refine ax_val (v := .pointer (some ⟨g, 0, none⟩)) (.pointer (some ⟨g, 0, none⟩)) HB (by kernel_rfl) (by kernel_rfl) (rfl) ?_
  refine ax_loadA 25 (.tmp 10) ⟨g, 0, none⟩ (.int .i64 x) _ HB (by kernel_rfl) rfl (by kernel_rfl) (loc_old HL0 ⟨h0, hg⟩) Tryd.underlying25 rfl ?_
  refine ax_val (v := .int .i64 x) (.int .i64 x) HB (by kernel_rfl) (by kernel_rfl) (rfl) ?_
  refine aw_nil ?_
  refine aw_n_then ?_
  refine aw_seq ?_
  refine aw_reg ?_
  refine ax_val (v := .int .i64 x) (.int .i64 x) HB (by kernel_rfl) (by kernel_rfl) (rfl) ?_
  refine ax_val (v := .int .i64 0) (.int .i64 0) HB (by kernel_rfl) (by kernel_rfl) (rfl) ?_
  refine ax_fork (x != 0) HB (by kernel_rfl) (by kernel_rfl) ?_ ?_
  · intro f1
    have k1 := aw_neq_t f1
    refine aw_nil ?_
    refine aw_n_then ?_
    refine ax_yes HB (by kernel_rfl) ?_
    refine aw_seq ?_
    refine aw_reg ?_
    refine ax_val (v := .int .i64 x) (.int .i64 x) HB (by kernel_rfl) (by kernel_rfl) (rfl) ?_
    refine ax_val (v := .int .i64 x) (.int .i64 x) HB (by kernel_rfl) (by kernel_rfl) (rfl) ?_
    refine aw_nil ?_
    refine aw_n_then ?_
    refine aw_ret ?_
    refine aw_r_in ?_
    refine aw_r_then ?_
    refine aw_r_then ?_
    refine aw_r_in ?_
    refine aw_r_then ?_
    refine aw_end (.int .i64 x) (by kernel_rfl) (by kernel_rfl) ?_
    exact ⟨by rw [if_neg k1], HL0.bel⟩
  · intro f2
    have k2 := aw_neq_f f2
    refine aw_nil ?_
    refine aw_n_then ?_
    refine ax_no HB (by kernel_rfl) ?_
    refine aw_skip0 ?_
    refine aw_n_in ?_
    refine aw_n_then ?_
    refine aw_reg ?_
    refine ax_val (v := .int .i64 1) (.int .i64 1) HB (by kernel_rfl) (by kernel_rfl) (rfl) ?_
    refine ax_val (v := .int .i64 1) (.int .i64 1) HB (by kernel_rfl) (by kernel_rfl) (rfl) ?_
    refine aw_nil ?_
    refine aw_urn ?_
    refine aw_urnd (n := 1) ?_
    refine aw_seq ?_
    refine aw_reg ?_
    refine ax_val (v := .bool true) (.bool true) HB (by kernel_rfl) (by kernel_rfl) (rfl) ?_
    refine aw_nil ?_
    refine aw_n_then ?_
    refine aw_seq ?_
    refine ax_yes HB (by kernel_rfl) ?_
    refine aw_skip0 ?_
    refine aw_n_then ?_
    refine aw_seq ?_
    refine aw_block ?_
    refine aw_seq ?_
    refine aw_reg ?_
    refine ax_val (v := .pointer (some ⟨g, 1, none⟩)) (.pointer (some ⟨g, 1, none⟩)) HB (by kernel_rfl) (by kernel_rfl) (rfl) ?_
    refine ax_loadA 25 (.tmp 10) ⟨g, 1, none⟩ (.int .i64 y) _ HB (by kernel_rfl) rfl (by kernel_rfl) (loc_old HL0 ⟨h1, hg⟩) Tryd.underlying25 rfl ?_
    refine ax_val (v := .int .i64 y) (.int .i64 y) HB (by kernel_rfl) (by kernel_rfl) (rfl) ?_
    refine aw_nil ?_
    refine aw_n_then ?_
    refine aw_seq ?_
    refine aw_reg ?_
    refine ax_val (v := .int .i64 y) (.int .i64 y) HB (by kernel_rfl) (by kernel_rfl) (rfl) ?_
    refine ax_val (v := .int .i64 0) (.int .i64 0) HB (by kernel_rfl) (by kernel_rfl) (rfl) ?_
    refine ax_fork (y != 0) HB (by kernel_rfl) (by kernel_rfl) ?_ ?_
    · intro f3
      have k3 := aw_neq_t f3
      refine aw_nil ?_
      refine aw_n_then ?_
      refine ax_yes HB (by kernel_rfl) ?_
      refine aw_seq ?_
      refine aw_reg ?_
      refine ax_val (v := .int .i64 y) (.int .i64 y) HB (by kernel_rfl) (by kernel_rfl) (rfl) ?_
      refine ax_val (v := .int .i64 y) (.int .i64 y) HB (by kernel_rfl) (by kernel_rfl) (rfl) ?_
      refine aw_nil ?_
      refine aw_n_then ?_
      refine aw_ret ?_
      refine aw_r_in ?_
      refine aw_r_then ?_
      refine aw_r_then ?_
      refine aw_r_in ?_
      refine aw_r_then ?_
      refine aw_end (.int .i64 y) (by kernel_rfl) (by kernel_rfl) ?_
      exact ⟨by rw [if_pos k2], HL0.bel⟩
    · intro f4
      have k4 := aw_neq_f f4
      refine aw_nil ?_
      refine aw_n_then ?_
      refine ax_no HB (by kernel_rfl) ?_
      refine aw_skip0 ?_
      refine aw_n_in ?_
      refine aw_n_then ?_
      refine aw_reg ?_
      refine ax_val (v := .int .i64 2) (.int .i64 2) HB (by kernel_rfl) (by kernel_rfl) (rfl) ?_
      refine ax_val (v := .int .i64 2) (.int .i64 2) HB (by kernel_rfl) (by kernel_rfl) (rfl) ?_
      refine aw_nil ?_
      refine aw_urn ?_
      refine aw_urnd (n := 0) ?_
      refine aw_seq ?_
      refine aw_reg ?_
      refine ax_val (v := .bool false) (.bool false) HB (by kernel_rfl) (by kernel_rfl) (rfl) ?_
      refine aw_nil ?_
      refine aw_n_then ?_
      refine aw_seq ?_
      refine ax_no HB (by kernel_rfl) ?_
      refine aw_exit ?_
      refine aw_e_then ?_
      refine aw_e_then ?_
      refine aw_e_in ?_
      refine aw_n_then ?_
      refine aw_seq ?_
      refine aw_reg ?_
      refine ax_val (v := .int .i64 0) (.int .i64 0) HB (by kernel_rfl) (by kernel_rfl) (rfl) ?_
      refine ax_val (v := .int .i64 0) (.int .i64 0) HB (by kernel_rfl) (by kernel_rfl) (rfl) ?_
      refine aw_nil ?_
      refine aw_n_then ?_
      refine aw_ret ?_
      refine aw_end (.int .i64 0) (by kernel_rfl) (by kernel_rfl) ?_
      exact ⟨by rw [if_pos k2]; rw [k4], HL0.bel⟩

theorem with_err {F : Int × Int → Int × Int → (Int × Int) × Int} {x y e u v f : Int} (h : (if e = 0 then f else e) ≠ 0) : withE F ((x, y), e) ((u, v), f) = ((0, 0), if e = 0 then f else e) := by
  unfold withE
  by_cases he : e = 0
  · rw [if_pos he] at h ⊢
    rw [if_pos he, if_neg h]
  · rw [if_neg he, if_neg he]
theorem with_fine {F : Int × Int → Int × Int → (Int × Int) × Int} {x y e u v f : Int} (h : (if e = 0 then f else e) = 0) : withE F ((x, y), e) ((u, v), f) = F (x, y) (u, v) := by
  unfold withE
  by_cases he : e = 0
  · rw [if_pos he] at h
    rw [if_pos he, if_pos h]
  · rw [if_neg he] at h; exact absurd h he
theorem thru_err {F : Int × Int → (Int × Int) × Int} {x y e : Int} (h : e ≠ 0) : thruE F ((x, y), e) = ((x, y), e) := by unfold thruE; rw [if_neg h]
theorem thru_fine {F : Int × Int → (Int × Int) × Int} {x y e : Int} (h : e = 0) : thruE F ((x, y), e) = F (x, y) := by unfold thruE; rw [if_pos h]
/-- Three numbers that fit. -/
def I3 (x y u v : Int) : Prop := I64 x ∧ I64 y ∧ I64 u ∧ I64 v
set_option maxRecDepth 100000 in
set_option maxHeartbeats 2000000 in
theorem withAdd (x y e u v f : Int) (w : World) (hI : I3 x y u v) : Calls Tryd.prog 136 #[.agg #[.int .i64 x, .int .i64 y, .int .i64 e], .func (.func 137) #[] #[], .agg #[.int .i64 u, .int .i64 v, .int .i64 f]] w fun r w' => r = .returned (calV (withE addW ((x, y), e) ((u, v), f))) ∧ Below w.heap.size w w' := by
  refine calls_of_wp Tryd.func136 rfl ?_
  refine Boxw.out (ax_in ?_)
  have HB : Array.size ((#[.agg #[.int .i64 x, .int .i64 y, .int .i64 e], .func (.func 137) #[] #[], .agg #[.int .i64 u, .int .i64 v, .int .i64 f]] : Array Value) ++ Array.replicate (Func.ntmps Tryd.f136 - Array.size (#[.agg #[.int .i64 x, .int .i64 y, .int .i64 e], .func (.func 137) #[] #[], .agg #[.int .i64 u, .int .i64 v, .int .i64 f]] : Array Value)) undef) = 29 := by kernel_rfl
  have HL0 := Loc.start w
  refine aw_seq ?_
  refine aw_reg ?_
  refine ax_new 125 [.int .i64 x, .int .i64 y, .int .i64 e] HB HL0 (by kernel_rfl) (by kernel_rfl) ?_
  intro g1 w2 HL3
  clear HL0
  refine ax_new 125 [.int .i64 u, .int .i64 v, .int .i64 f] HB HL3 (by kernel_rfl) (by kernel_rfl) ?_
  intro g4 w5 HL6
  clear HL3
  refine ax_new 125 [.int .i64 0, .int .i64 0, .int .i64 0] HB HL6 (by kernel_rfl) (by kernel_rfl) ?_
  intro g7 w8 HL9
  clear HL6
  refine aw_nil ?_
  refine aw_n_then ?_
  refine aw_seq ?_
  refine aw_seq ?_
  refine aw_reg ?_
  refine ax_val (v := .pointer (some ⟨g1, 2, none⟩)) (.pointer (some ⟨g1, 2, none⟩)) HB (by kernel_rfl) (by kernel_rfl) (rfl) ?_
  refine ax_load 25 (.tmp 8) 2 g1 2 125 [.int .i64 x, .int .i64 y, .int .i64 e] (.int .i64 e) _ HB HL9 (by kernel_rfl) rfl (by kernel_rfl) rfl rfl Tryd.underlying25 rfl ?_
  refine ax_val (v := .pointer (some ⟨g4, 2, none⟩)) (.pointer (some ⟨g4, 2, none⟩)) HB (by kernel_rfl) (by kernel_rfl) (rfl) ?_
  refine ax_load 25 (.tmp 10) 1 g4 2 125 [.int .i64 u, .int .i64 v, .int .i64 f] (.int .i64 f) _ HB HL9 (by kernel_rfl) rfl (by kernel_rfl) rfl rfl Tryd.underlying25 rfl ?_
  refine ax_newS 25 [.int .i64 e, .int .i64 f] 2 2 HB HL9 (by kernel_rfl) (by kernel_rfl) ?_
  intro g10 w11 HL12
  clear HL9
  refine ax_call 168 #[.slice (some ⟨g10, 0, none⟩) 2 2] (.int .i64 (if e = 0 then f else e)) HB HL12 (by kernel_rfl) (by kernel_rfl) (or_any g10 e f w11 (HL12.get (i := 0) rfl).lt ((HL12.get (i := 0) rfl).cell rfl) ((HL12.get (i := 0) rfl).cell rfl)) ?_
  intro w13 HL14
  clear HL12
  refine ax_val (v := .int .i64 (if e = 0 then f else e)) (.int .i64 (if e = 0 then f else e)) HB (by kernel_rfl) (by kernel_rfl) (rfl) ?_
  refine aw_nil ?_
  refine aw_n_then ?_
  refine aw_seq ?_
  refine aw_reg ?_
  refine ax_val (v := .int .i64 (if e = 0 then f else e)) (.int .i64 (if e = 0 then f else e)) HB (by kernel_rfl) (by kernel_rfl) (rfl) ?_
  refine ax_fork ((if e = 0 then f else e) != 0) HB (by kernel_rfl) (by kernel_rfl) ?_ ?_
  · intro f15
    have k15 := aw_neq_t f15
    refine aw_nil ?_
    refine aw_n_then ?_
    refine ax_yes HB (by kernel_rfl) ?_
    refine aw_seq ?_
    refine aw_reg ?_
    refine ax_val (v := .int .i64 (if e = 0 then f else e)) (.int .i64 (if e = 0 then f else e)) HB (by kernel_rfl) (by kernel_rfl) (rfl) ?_
    refine ax_call 130 #[.int .i64 (if e = 0 then f else e)] (.agg #[.int .i64 0, .int .i64 0, .int .i64 (if e = 0 then f else e)]) HB HL14 (by kernel_rfl) (by kernel_rfl) (failed_any (if e = 0 then f else e) w13) ?_
    intro w17 HL18
    clear HL14
    refine ax_store 125 (.tmp 6) (.tmp 17) 1 g7 0 125 [.int .i64 0, .int .i64 0, .int .i64 0] [.int .i64 0, .int .i64 0, .int .i64 (if e = 0 then f else e)] [.int .i64 0, .int .i64 0, .int .i64 (if e = 0 then f else e)] [(g10, 25, [.int .i64 e, .int .i64 f]), (g7, 125, [.int .i64 0, .int .i64 0, .int .i64 (if e = 0 then f else e)]), (g4, 125, [.int .i64 u, .int .i64 v, .int .i64 f]), (g1, 125, [.int .i64 x, .int .i64 y, .int .i64 e])] HB HL18 (by kernel_rfl) rfl (by kernel_rfl) (by kernel_rfl) rfl (by kernel_rfl) (by kernel_rfl) (Nat.le_of_ble_eq_true rfl) rfl rfl ?_
    intro w19 HL20
    clear HL18
    refine aw_nil ?_
    refine aw_n_then ?_
    refine aw_ret ?_
    refine aw_r_then ?_
    refine aw_end (.agg #[.int .i64 0, .int .i64 0, .int .i64 (if e = 0 then f else e)]) (by kernel_rfl) (res_c Tryd.results136 (by kernel_rfl) (loc_var HL20 (i := 1) rfl Tryd.underlying125 rfl (by kernel_rfl))) ?_
    exact ⟨by rw [with_err k15]; rfl, HL20.bel⟩
  · intro f16
    have k16 := aw_neq_f f16
    refine aw_nil ?_
    refine aw_n_then ?_
    refine ax_no HB (by kernel_rfl) ?_
    refine aw_skip0 ?_
    refine aw_n_then ?_
    refine aw_seq ?_
    refine aw_reg ?_
    refine ax_val (v := .func (.func 137) #[] #[]) (.func (.func 137) #[] #[]) HB (by kernel_rfl) (by kernel_rfl) (rfl) ?_
    refine ax_val (v := .pointer (some ⟨g1, 0, none⟩)) (.pointer (some ⟨g1, 0, none⟩)) HB (by kernel_rfl) (by kernel_rfl) (rfl) ?_
    refine ax_val (v := .pointer (some ⟨g1, 0, none⟩)) (.pointer (some ⟨g1, 0, none⟩)) HB (by kernel_rfl) (by kernel_rfl) (rfl) ?_
    refine ax_mid 55 (.tmp 20) 3 g1 0 125 [.int .i64 x, .int .i64 y, .int .i64 e] [.int .i64 x, .int .i64 y] _ HB HL14 (by kernel_rfl) rfl (by kernel_rfl) rfl rfl Tryd.underlying55 rfl (by kernel_rfl) ?_
    refine ax_val (v := .pointer (some ⟨g4, 0, none⟩)) (.pointer (some ⟨g4, 0, none⟩)) HB (by kernel_rfl) (by kernel_rfl) (rfl) ?_
    refine ax_val (v := .pointer (some ⟨g4, 0, none⟩)) (.pointer (some ⟨g4, 0, none⟩)) HB (by kernel_rfl) (by kernel_rfl) (rfl) ?_
    refine ax_mid 55 (.tmp 23) 2 g4 0 125 [.int .i64 u, .int .i64 v, .int .i64 f] [.int .i64 u, .int .i64 v] _ HB HL14 (by kernel_rfl) rfl (by kernel_rfl) rfl rfl Tryd.underlying55 rfl (by kernel_rfl) ?_
    refine ax_call 137 #[.agg #[.int .i64 x, .int .i64 y], .agg #[.int .i64 u, .int .i64 v]] (.tuple #[.agg #[.int .i64 ((addW (x, y) (u, v)).1.1), .int .i64 ((addW (x, y) (u, v)).1.2)], .int .i64 ((addW (x, y) (u, v)).2)]) HB HL14 (by kernel_rfl) (by kernel_rfl) (add_any (x, y) (u, v) w13 ⟨hI.1, hI.2.1⟩ ⟨hI.2.2.1, hI.2.2.2⟩) ?_
    intro w21 HL22
    clear HL14
    refine ax_val (v := .agg #[.int .i64 ((addW (x, y) (u, v)).1.1), .int .i64 ((addW (x, y) (u, v)).1.2)]) (.agg #[.int .i64 ((addW (x, y) (u, v)).1.1), .int .i64 ((addW (x, y) (u, v)).1.2)]) HB (by kernel_rfl) (by kernel_rfl) (rfl) ?_
    refine ax_val (v := .int .i64 ((addW (x, y) (u, v)).2)) (.int .i64 ((addW (x, y) (u, v)).2)) HB (by kernel_rfl) (by kernel_rfl) (rfl) ?_
    refine ax_call 135 #[.agg #[.int .i64 ((addW (x, y) (u, v)).1.1), .int .i64 ((addW (x, y) (u, v)).1.2)], .int .i64 ((addW (x, y) (u, v)).2)] (.agg #[.int .i64 ((addW (x, y) (u, v)).1.1), .int .i64 ((addW (x, y) (u, v)).1.2), .int .i64 ((addW (x, y) (u, v)).2)]) HB HL22 (by kernel_rfl) (by kernel_rfl) (calculated_any ((addW (x, y) (u, v)).1.1) ((addW (x, y) (u, v)).1.2) ((addW (x, y) (u, v)).2) w21) ?_
    intro w23 HL24
    clear HL22
    refine ax_store 125 (.tmp 6) (.tmp 28) 1 g7 0 125 [.int .i64 0, .int .i64 0, .int .i64 0] [.int .i64 ((addW (x, y) (u, v)).1.1), .int .i64 ((addW (x, y) (u, v)).1.2), .int .i64 ((addW (x, y) (u, v)).2)] [.int .i64 ((addW (x, y) (u, v)).1.1), .int .i64 ((addW (x, y) (u, v)).1.2), .int .i64 ((addW (x, y) (u, v)).2)] [(g10, 25, [.int .i64 e, .int .i64 f]), (g7, 125, [.int .i64 ((addW (x, y) (u, v)).1.1), .int .i64 ((addW (x, y) (u, v)).1.2), .int .i64 ((addW (x, y) (u, v)).2)]), (g4, 125, [.int .i64 u, .int .i64 v, .int .i64 f]), (g1, 125, [.int .i64 x, .int .i64 y, .int .i64 e])] HB HL24 (by kernel_rfl) rfl (by kernel_rfl) (by kernel_rfl) rfl (by kernel_rfl) (by kernel_rfl) (Nat.le_of_ble_eq_true rfl) rfl rfl ?_
    intro w25 HL26
    clear HL24
    refine aw_nil ?_
    refine aw_n_then ?_
    refine aw_ret ?_
    refine aw_end (.agg #[.int .i64 ((addW (x, y) (u, v)).1.1), .int .i64 ((addW (x, y) (u, v)).1.2), .int .i64 ((addW (x, y) (u, v)).2)]) (by kernel_rfl) (res_c Tryd.results136 (by kernel_rfl) (loc_var HL26 (i := 1) rfl Tryd.underlying125 rfl (by kernel_rfl))) ?_
    exact ⟨by rw [with_fine k16]; rfl, HL26.bel⟩

set_option maxRecDepth 100000 in
set_option maxHeartbeats 2000000 in
theorem withSub (x y e u v f : Int) (w : World) (hI : I3 x y u v) : Calls Tryd.prog 136 #[.agg #[.int .i64 x, .int .i64 y, .int .i64 e], .func (.func 166) #[] #[], .agg #[.int .i64 u, .int .i64 v, .int .i64 f]] w fun r w' => r = .returned (calV (withE subW ((x, y), e) ((u, v), f))) ∧ Below w.heap.size w w' := by
  refine calls_of_wp Tryd.func136 rfl ?_
  refine Boxw.out (ax_in ?_)
  have HB : Array.size ((#[.agg #[.int .i64 x, .int .i64 y, .int .i64 e], .func (.func 166) #[] #[], .agg #[.int .i64 u, .int .i64 v, .int .i64 f]] : Array Value) ++ Array.replicate (Func.ntmps Tryd.f136 - Array.size (#[.agg #[.int .i64 x, .int .i64 y, .int .i64 e], .func (.func 166) #[] #[], .agg #[.int .i64 u, .int .i64 v, .int .i64 f]] : Array Value)) undef) = 29 := by kernel_rfl
  have HL0 := Loc.start w
  refine aw_seq ?_
  refine aw_reg ?_
  refine ax_new 125 [.int .i64 x, .int .i64 y, .int .i64 e] HB HL0 (by kernel_rfl) (by kernel_rfl) ?_
  intro g1 w2 HL3
  clear HL0
  refine ax_new 125 [.int .i64 u, .int .i64 v, .int .i64 f] HB HL3 (by kernel_rfl) (by kernel_rfl) ?_
  intro g4 w5 HL6
  clear HL3
  refine ax_new 125 [.int .i64 0, .int .i64 0, .int .i64 0] HB HL6 (by kernel_rfl) (by kernel_rfl) ?_
  intro g7 w8 HL9
  clear HL6
  refine aw_nil ?_
  refine aw_n_then ?_
  refine aw_seq ?_
  refine aw_seq ?_
  refine aw_reg ?_
  refine ax_val (v := .pointer (some ⟨g1, 2, none⟩)) (.pointer (some ⟨g1, 2, none⟩)) HB (by kernel_rfl) (by kernel_rfl) (rfl) ?_
  refine ax_load 25 (.tmp 8) 2 g1 2 125 [.int .i64 x, .int .i64 y, .int .i64 e] (.int .i64 e) _ HB HL9 (by kernel_rfl) rfl (by kernel_rfl) rfl rfl Tryd.underlying25 rfl ?_
  refine ax_val (v := .pointer (some ⟨g4, 2, none⟩)) (.pointer (some ⟨g4, 2, none⟩)) HB (by kernel_rfl) (by kernel_rfl) (rfl) ?_
  refine ax_load 25 (.tmp 10) 1 g4 2 125 [.int .i64 u, .int .i64 v, .int .i64 f] (.int .i64 f) _ HB HL9 (by kernel_rfl) rfl (by kernel_rfl) rfl rfl Tryd.underlying25 rfl ?_
  refine ax_newS 25 [.int .i64 e, .int .i64 f] 2 2 HB HL9 (by kernel_rfl) (by kernel_rfl) ?_
  intro g10 w11 HL12
  clear HL9
  refine ax_call 168 #[.slice (some ⟨g10, 0, none⟩) 2 2] (.int .i64 (if e = 0 then f else e)) HB HL12 (by kernel_rfl) (by kernel_rfl) (or_any g10 e f w11 (HL12.get (i := 0) rfl).lt ((HL12.get (i := 0) rfl).cell rfl) ((HL12.get (i := 0) rfl).cell rfl)) ?_
  intro w13 HL14
  clear HL12
  refine ax_val (v := .int .i64 (if e = 0 then f else e)) (.int .i64 (if e = 0 then f else e)) HB (by kernel_rfl) (by kernel_rfl) (rfl) ?_
  refine aw_nil ?_
  refine aw_n_then ?_
  refine aw_seq ?_
  refine aw_reg ?_
  refine ax_val (v := .int .i64 (if e = 0 then f else e)) (.int .i64 (if e = 0 then f else e)) HB (by kernel_rfl) (by kernel_rfl) (rfl) ?_
  refine ax_fork ((if e = 0 then f else e) != 0) HB (by kernel_rfl) (by kernel_rfl) ?_ ?_
  · intro f15
    have k15 := aw_neq_t f15
    refine aw_nil ?_
    refine aw_n_then ?_
    refine ax_yes HB (by kernel_rfl) ?_
    refine aw_seq ?_
    refine aw_reg ?_
    refine ax_val (v := .int .i64 (if e = 0 then f else e)) (.int .i64 (if e = 0 then f else e)) HB (by kernel_rfl) (by kernel_rfl) (rfl) ?_
    refine ax_call 130 #[.int .i64 (if e = 0 then f else e)] (.agg #[.int .i64 0, .int .i64 0, .int .i64 (if e = 0 then f else e)]) HB HL14 (by kernel_rfl) (by kernel_rfl) (failed_any (if e = 0 then f else e) w13) ?_
    intro w17 HL18
    clear HL14
    refine ax_store 125 (.tmp 6) (.tmp 17) 1 g7 0 125 [.int .i64 0, .int .i64 0, .int .i64 0] [.int .i64 0, .int .i64 0, .int .i64 (if e = 0 then f else e)] [.int .i64 0, .int .i64 0, .int .i64 (if e = 0 then f else e)] [(g10, 25, [.int .i64 e, .int .i64 f]), (g7, 125, [.int .i64 0, .int .i64 0, .int .i64 (if e = 0 then f else e)]), (g4, 125, [.int .i64 u, .int .i64 v, .int .i64 f]), (g1, 125, [.int .i64 x, .int .i64 y, .int .i64 e])] HB HL18 (by kernel_rfl) rfl (by kernel_rfl) (by kernel_rfl) rfl (by kernel_rfl) (by kernel_rfl) (Nat.le_of_ble_eq_true rfl) rfl rfl ?_
    intro w19 HL20
    clear HL18
    refine aw_nil ?_
    refine aw_n_then ?_
    refine aw_ret ?_
    refine aw_r_then ?_
    refine aw_end (.agg #[.int .i64 0, .int .i64 0, .int .i64 (if e = 0 then f else e)]) (by kernel_rfl) (res_c Tryd.results136 (by kernel_rfl) (loc_var HL20 (i := 1) rfl Tryd.underlying125 rfl (by kernel_rfl))) ?_
    exact ⟨by rw [with_err k15]; rfl, HL20.bel⟩
  · intro f16
    have k16 := aw_neq_f f16
    refine aw_nil ?_
    refine aw_n_then ?_
    refine ax_no HB (by kernel_rfl) ?_
    refine aw_skip0 ?_
    refine aw_n_then ?_
    refine aw_seq ?_
    refine aw_reg ?_
    refine ax_val (v := .func (.func 166) #[] #[]) (.func (.func 166) #[] #[]) HB (by kernel_rfl) (by kernel_rfl) (rfl) ?_
    refine ax_val (v := .pointer (some ⟨g1, 0, none⟩)) (.pointer (some ⟨g1, 0, none⟩)) HB (by kernel_rfl) (by kernel_rfl) (rfl) ?_
    refine ax_val (v := .pointer (some ⟨g1, 0, none⟩)) (.pointer (some ⟨g1, 0, none⟩)) HB (by kernel_rfl) (by kernel_rfl) (rfl) ?_
    refine ax_mid 55 (.tmp 20) 3 g1 0 125 [.int .i64 x, .int .i64 y, .int .i64 e] [.int .i64 x, .int .i64 y] _ HB HL14 (by kernel_rfl) rfl (by kernel_rfl) rfl rfl Tryd.underlying55 rfl (by kernel_rfl) ?_
    refine ax_val (v := .pointer (some ⟨g4, 0, none⟩)) (.pointer (some ⟨g4, 0, none⟩)) HB (by kernel_rfl) (by kernel_rfl) (rfl) ?_
    refine ax_val (v := .pointer (some ⟨g4, 0, none⟩)) (.pointer (some ⟨g4, 0, none⟩)) HB (by kernel_rfl) (by kernel_rfl) (rfl) ?_
    refine ax_mid 55 (.tmp 23) 2 g4 0 125 [.int .i64 u, .int .i64 v, .int .i64 f] [.int .i64 u, .int .i64 v] _ HB HL14 (by kernel_rfl) rfl (by kernel_rfl) rfl rfl Tryd.underlying55 rfl (by kernel_rfl) ?_
    refine ax_call 166 #[.agg #[.int .i64 x, .int .i64 y], .agg #[.int .i64 u, .int .i64 v]] (.tuple #[.agg #[.int .i64 ((subW (x, y) (u, v)).1.1), .int .i64 ((subW (x, y) (u, v)).1.2)], .int .i64 ((subW (x, y) (u, v)).2)]) HB HL14 (by kernel_rfl) (by kernel_rfl) (sub_any (x, y) (u, v) w13 ⟨hI.1, hI.2.1⟩ ⟨hI.2.2.1, hI.2.2.2⟩) ?_
    intro w21 HL22
    clear HL14
    refine ax_val (v := .agg #[.int .i64 ((subW (x, y) (u, v)).1.1), .int .i64 ((subW (x, y) (u, v)).1.2)]) (.agg #[.int .i64 ((subW (x, y) (u, v)).1.1), .int .i64 ((subW (x, y) (u, v)).1.2)]) HB (by kernel_rfl) (by kernel_rfl) (rfl) ?_
    refine ax_val (v := .int .i64 ((subW (x, y) (u, v)).2)) (.int .i64 ((subW (x, y) (u, v)).2)) HB (by kernel_rfl) (by kernel_rfl) (rfl) ?_
    refine ax_call 135 #[.agg #[.int .i64 ((subW (x, y) (u, v)).1.1), .int .i64 ((subW (x, y) (u, v)).1.2)], .int .i64 ((subW (x, y) (u, v)).2)] (.agg #[.int .i64 ((subW (x, y) (u, v)).1.1), .int .i64 ((subW (x, y) (u, v)).1.2), .int .i64 ((subW (x, y) (u, v)).2)]) HB HL22 (by kernel_rfl) (by kernel_rfl) (calculated_any ((subW (x, y) (u, v)).1.1) ((subW (x, y) (u, v)).1.2) ((subW (x, y) (u, v)).2) w21) ?_
    intro w23 HL24
    clear HL22
    refine ax_store 125 (.tmp 6) (.tmp 28) 1 g7 0 125 [.int .i64 0, .int .i64 0, .int .i64 0] [.int .i64 ((subW (x, y) (u, v)).1.1), .int .i64 ((subW (x, y) (u, v)).1.2), .int .i64 ((subW (x, y) (u, v)).2)] [.int .i64 ((subW (x, y) (u, v)).1.1), .int .i64 ((subW (x, y) (u, v)).1.2), .int .i64 ((subW (x, y) (u, v)).2)] [(g10, 25, [.int .i64 e, .int .i64 f]), (g7, 125, [.int .i64 ((subW (x, y) (u, v)).1.1), .int .i64 ((subW (x, y) (u, v)).1.2), .int .i64 ((subW (x, y) (u, v)).2)]), (g4, 125, [.int .i64 u, .int .i64 v, .int .i64 f]), (g1, 125, [.int .i64 x, .int .i64 y, .int .i64 e])] HB HL24 (by kernel_rfl) rfl (by kernel_rfl) (by kernel_rfl) rfl (by kernel_rfl) (by kernel_rfl) (Nat.le_of_ble_eq_true rfl) rfl rfl ?_
    intro w25 HL26
    clear HL24
    refine aw_nil ?_
    refine aw_n_then ?_
    refine aw_ret ?_
    refine aw_end (.agg #[.int .i64 ((subW (x, y) (u, v)).1.1), .int .i64 ((subW (x, y) (u, v)).1.2), .int .i64 ((subW (x, y) (u, v)).2)]) (by kernel_rfl) (res_c Tryd.results136 (by kernel_rfl) (loc_var HL26 (i := 1) rfl Tryd.underlying125 rfl (by kernel_rfl))) ?_
    exact ⟨by rw [with_fine k16]; rfl, HL26.bel⟩

set_option maxRecDepth 100000 in
set_option maxHeartbeats 2000000 in
theorem withMul (x y e u v f : Int) (w : World) (hI : I3 x y u v) : Calls Tryd.prog 136 #[.agg #[.int .i64 x, .int .i64 y, .int .i64 e], .func (.func 189) #[] #[], .agg #[.int .i64 u, .int .i64 v, .int .i64 f]] w fun r w' => r = .returned (calV (withE mulW ((x, y), e) ((u, v), f))) ∧ Below w.heap.size w w' := by
  refine calls_of_wp Tryd.func136 rfl ?_
  refine Boxw.out (ax_in ?_)
  have HB : Array.size ((#[.agg #[.int .i64 x, .int .i64 y, .int .i64 e], .func (.func 189) #[] #[], .agg #[.int .i64 u, .int .i64 v, .int .i64 f]] : Array Value) ++ Array.replicate (Func.ntmps Tryd.f136 - Array.size (#[.agg #[.int .i64 x, .int .i64 y, .int .i64 e], .func (.func 189) #[] #[], .agg #[.int .i64 u, .int .i64 v, .int .i64 f]] : Array Value)) undef) = 29 := by kernel_rfl
  have HL0 := Loc.start w
  refine aw_seq ?_
  refine aw_reg ?_
  refine ax_new 125 [.int .i64 x, .int .i64 y, .int .i64 e] HB HL0 (by kernel_rfl) (by kernel_rfl) ?_
  intro g1 w2 HL3
  clear HL0
  refine ax_new 125 [.int .i64 u, .int .i64 v, .int .i64 f] HB HL3 (by kernel_rfl) (by kernel_rfl) ?_
  intro g4 w5 HL6
  clear HL3
  refine ax_new 125 [.int .i64 0, .int .i64 0, .int .i64 0] HB HL6 (by kernel_rfl) (by kernel_rfl) ?_
  intro g7 w8 HL9
  clear HL6
  refine aw_nil ?_
  refine aw_n_then ?_
  refine aw_seq ?_
  refine aw_seq ?_
  refine aw_reg ?_
  refine ax_val (v := .pointer (some ⟨g1, 2, none⟩)) (.pointer (some ⟨g1, 2, none⟩)) HB (by kernel_rfl) (by kernel_rfl) (rfl) ?_
  refine ax_load 25 (.tmp 8) 2 g1 2 125 [.int .i64 x, .int .i64 y, .int .i64 e] (.int .i64 e) _ HB HL9 (by kernel_rfl) rfl (by kernel_rfl) rfl rfl Tryd.underlying25 rfl ?_
  refine ax_val (v := .pointer (some ⟨g4, 2, none⟩)) (.pointer (some ⟨g4, 2, none⟩)) HB (by kernel_rfl) (by kernel_rfl) (rfl) ?_
  refine ax_load 25 (.tmp 10) 1 g4 2 125 [.int .i64 u, .int .i64 v, .int .i64 f] (.int .i64 f) _ HB HL9 (by kernel_rfl) rfl (by kernel_rfl) rfl rfl Tryd.underlying25 rfl ?_
  refine ax_newS 25 [.int .i64 e, .int .i64 f] 2 2 HB HL9 (by kernel_rfl) (by kernel_rfl) ?_
  intro g10 w11 HL12
  clear HL9
  refine ax_call 168 #[.slice (some ⟨g10, 0, none⟩) 2 2] (.int .i64 (if e = 0 then f else e)) HB HL12 (by kernel_rfl) (by kernel_rfl) (or_any g10 e f w11 (HL12.get (i := 0) rfl).lt ((HL12.get (i := 0) rfl).cell rfl) ((HL12.get (i := 0) rfl).cell rfl)) ?_
  intro w13 HL14
  clear HL12
  refine ax_val (v := .int .i64 (if e = 0 then f else e)) (.int .i64 (if e = 0 then f else e)) HB (by kernel_rfl) (by kernel_rfl) (rfl) ?_
  refine aw_nil ?_
  refine aw_n_then ?_
  refine aw_seq ?_
  refine aw_reg ?_
  refine ax_val (v := .int .i64 (if e = 0 then f else e)) (.int .i64 (if e = 0 then f else e)) HB (by kernel_rfl) (by kernel_rfl) (rfl) ?_
  refine ax_fork ((if e = 0 then f else e) != 0) HB (by kernel_rfl) (by kernel_rfl) ?_ ?_
  · intro f15
    have k15 := aw_neq_t f15
    refine aw_nil ?_
    refine aw_n_then ?_
    refine ax_yes HB (by kernel_rfl) ?_
    refine aw_seq ?_
    refine aw_reg ?_
    refine ax_val (v := .int .i64 (if e = 0 then f else e)) (.int .i64 (if e = 0 then f else e)) HB (by kernel_rfl) (by kernel_rfl) (rfl) ?_
    refine ax_call 130 #[.int .i64 (if e = 0 then f else e)] (.agg #[.int .i64 0, .int .i64 0, .int .i64 (if e = 0 then f else e)]) HB HL14 (by kernel_rfl) (by kernel_rfl) (failed_any (if e = 0 then f else e) w13) ?_
    intro w17 HL18
    clear HL14
    refine ax_store 125 (.tmp 6) (.tmp 17) 1 g7 0 125 [.int .i64 0, .int .i64 0, .int .i64 0] [.int .i64 0, .int .i64 0, .int .i64 (if e = 0 then f else e)] [.int .i64 0, .int .i64 0, .int .i64 (if e = 0 then f else e)] [(g10, 25, [.int .i64 e, .int .i64 f]), (g7, 125, [.int .i64 0, .int .i64 0, .int .i64 (if e = 0 then f else e)]), (g4, 125, [.int .i64 u, .int .i64 v, .int .i64 f]), (g1, 125, [.int .i64 x, .int .i64 y, .int .i64 e])] HB HL18 (by kernel_rfl) rfl (by kernel_rfl) (by kernel_rfl) rfl (by kernel_rfl) (by kernel_rfl) (Nat.le_of_ble_eq_true rfl) rfl rfl ?_
    intro w19 HL20
    clear HL18
    refine aw_nil ?_
    refine aw_n_then ?_
    refine aw_ret ?_
    refine aw_r_then ?_
    refine aw_end (.agg #[.int .i64 0, .int .i64 0, .int .i64 (if e = 0 then f else e)]) (by kernel_rfl) (res_c Tryd.results136 (by kernel_rfl) (loc_var HL20 (i := 1) rfl Tryd.underlying125 rfl (by kernel_rfl))) ?_
    exact ⟨by rw [with_err k15]; rfl, HL20.bel⟩
  · intro f16
    have k16 := aw_neq_f f16
    refine aw_nil ?_
    refine aw_n_then ?_
    refine ax_no HB (by kernel_rfl) ?_
    refine aw_skip0 ?_
    refine aw_n_then ?_
    refine aw_seq ?_
    refine aw_reg ?_
    refine ax_val (v := .func (.func 189) #[] #[]) (.func (.func 189) #[] #[]) HB (by kernel_rfl) (by kernel_rfl) (rfl) ?_
    refine ax_val (v := .pointer (some ⟨g1, 0, none⟩)) (.pointer (some ⟨g1, 0, none⟩)) HB (by kernel_rfl) (by kernel_rfl) (rfl) ?_
    refine ax_val (v := .pointer (some ⟨g1, 0, none⟩)) (.pointer (some ⟨g1, 0, none⟩)) HB (by kernel_rfl) (by kernel_rfl) (rfl) ?_
    refine ax_mid 55 (.tmp 20) 3 g1 0 125 [.int .i64 x, .int .i64 y, .int .i64 e] [.int .i64 x, .int .i64 y] _ HB HL14 (by kernel_rfl) rfl (by kernel_rfl) rfl rfl Tryd.underlying55 rfl (by kernel_rfl) ?_
    refine ax_val (v := .pointer (some ⟨g4, 0, none⟩)) (.pointer (some ⟨g4, 0, none⟩)) HB (by kernel_rfl) (by kernel_rfl) (rfl) ?_
    refine ax_val (v := .pointer (some ⟨g4, 0, none⟩)) (.pointer (some ⟨g4, 0, none⟩)) HB (by kernel_rfl) (by kernel_rfl) (rfl) ?_
    refine ax_mid 55 (.tmp 23) 2 g4 0 125 [.int .i64 u, .int .i64 v, .int .i64 f] [.int .i64 u, .int .i64 v] _ HB HL14 (by kernel_rfl) rfl (by kernel_rfl) rfl rfl Tryd.underlying55 rfl (by kernel_rfl) ?_
    refine ax_call 189 #[.agg #[.int .i64 x, .int .i64 y], .agg #[.int .i64 u, .int .i64 v]] (.tuple #[.agg #[.int .i64 ((mulW (x, y) (u, v)).1.1), .int .i64 ((mulW (x, y) (u, v)).1.2)], .int .i64 ((mulW (x, y) (u, v)).2)]) HB HL14 (by kernel_rfl) (by kernel_rfl) (mul_any (x, y) (u, v) w13 ⟨hI.1, hI.2.1⟩ ⟨hI.2.2.1, hI.2.2.2⟩) ?_
    intro w21 HL22
    clear HL14
    refine ax_val (v := .agg #[.int .i64 ((mulW (x, y) (u, v)).1.1), .int .i64 ((mulW (x, y) (u, v)).1.2)]) (.agg #[.int .i64 ((mulW (x, y) (u, v)).1.1), .int .i64 ((mulW (x, y) (u, v)).1.2)]) HB (by kernel_rfl) (by kernel_rfl) (rfl) ?_
    refine ax_val (v := .int .i64 ((mulW (x, y) (u, v)).2)) (.int .i64 ((mulW (x, y) (u, v)).2)) HB (by kernel_rfl) (by kernel_rfl) (rfl) ?_
    refine ax_call 135 #[.agg #[.int .i64 ((mulW (x, y) (u, v)).1.1), .int .i64 ((mulW (x, y) (u, v)).1.2)], .int .i64 ((mulW (x, y) (u, v)).2)] (.agg #[.int .i64 ((mulW (x, y) (u, v)).1.1), .int .i64 ((mulW (x, y) (u, v)).1.2), .int .i64 ((mulW (x, y) (u, v)).2)]) HB HL22 (by kernel_rfl) (by kernel_rfl) (calculated_any ((mulW (x, y) (u, v)).1.1) ((mulW (x, y) (u, v)).1.2) ((mulW (x, y) (u, v)).2) w21) ?_
    intro w23 HL24
    clear HL22
    refine ax_store 125 (.tmp 6) (.tmp 28) 1 g7 0 125 [.int .i64 0, .int .i64 0, .int .i64 0] [.int .i64 ((mulW (x, y) (u, v)).1.1), .int .i64 ((mulW (x, y) (u, v)).1.2), .int .i64 ((mulW (x, y) (u, v)).2)] [.int .i64 ((mulW (x, y) (u, v)).1.1), .int .i64 ((mulW (x, y) (u, v)).1.2), .int .i64 ((mulW (x, y) (u, v)).2)] [(g10, 25, [.int .i64 e, .int .i64 f]), (g7, 125, [.int .i64 ((mulW (x, y) (u, v)).1.1), .int .i64 ((mulW (x, y) (u, v)).1.2), .int .i64 ((mulW (x, y) (u, v)).2)]), (g4, 125, [.int .i64 u, .int .i64 v, .int .i64 f]), (g1, 125, [.int .i64 x, .int .i64 y, .int .i64 e])] HB HL24 (by kernel_rfl) rfl (by kernel_rfl) (by kernel_rfl) rfl (by kernel_rfl) (by kernel_rfl) (Nat.le_of_ble_eq_true rfl) rfl rfl ?_
    intro w25 HL26
    clear HL24
    refine aw_nil ?_
    refine aw_n_then ?_
    refine aw_ret ?_
    refine aw_end (.agg #[.int .i64 ((mulW (x, y) (u, v)).1.1), .int .i64 ((mulW (x, y) (u, v)).1.2), .int .i64 ((mulW (x, y) (u, v)).2)]) (by kernel_rfl) (res_c Tryd.results136 (by kernel_rfl) (loc_var HL26 (i := 1) rfl Tryd.underlying125 rfl (by kernel_rfl))) ?_
    exact ⟨by rw [with_fine k16]; rfl, HL26.bel⟩

set_option maxRecDepth 100000 in
set_option maxHeartbeats 2000000 in
theorem withDiv (x y e u v f : Int) (w : World) (hI : I3 x y u v) : Calls Tryd.prog 136 #[.agg #[.int .i64 x, .int .i64 y, .int .i64 e], .func (.func 141) #[] #[], .agg #[.int .i64 u, .int .i64 v, .int .i64 f]] w fun r w' => r = .returned (calV (withE divE ((x, y), e) ((u, v), f))) ∧ Below w.heap.size w w' := by
  refine calls_of_wp Tryd.func136 rfl ?_
  refine Boxw.out (ax_in ?_)
  have HB : Array.size ((#[.agg #[.int .i64 x, .int .i64 y, .int .i64 e], .func (.func 141) #[] #[], .agg #[.int .i64 u, .int .i64 v, .int .i64 f]] : Array Value) ++ Array.replicate (Func.ntmps Tryd.f136 - Array.size (#[.agg #[.int .i64 x, .int .i64 y, .int .i64 e], .func (.func 141) #[] #[], .agg #[.int .i64 u, .int .i64 v, .int .i64 f]] : Array Value)) undef) = 29 := by kernel_rfl
  have HL0 := Loc.start w
  refine aw_seq ?_
  refine aw_reg ?_
  refine ax_new 125 [.int .i64 x, .int .i64 y, .int .i64 e] HB HL0 (by kernel_rfl) (by kernel_rfl) ?_
  intro g1 w2 HL3
  clear HL0
  refine ax_new 125 [.int .i64 u, .int .i64 v, .int .i64 f] HB HL3 (by kernel_rfl) (by kernel_rfl) ?_
  intro g4 w5 HL6
  clear HL3
  refine ax_new 125 [.int .i64 0, .int .i64 0, .int .i64 0] HB HL6 (by kernel_rfl) (by kernel_rfl) ?_
  intro g7 w8 HL9
  clear HL6
  refine aw_nil ?_
  refine aw_n_then ?_
  refine aw_seq ?_
  refine aw_seq ?_
  refine aw_reg ?_
  refine ax_val (v := .pointer (some ⟨g1, 2, none⟩)) (.pointer (some ⟨g1, 2, none⟩)) HB (by kernel_rfl) (by kernel_rfl) (rfl) ?_
  refine ax_load 25 (.tmp 8) 2 g1 2 125 [.int .i64 x, .int .i64 y, .int .i64 e] (.int .i64 e) _ HB HL9 (by kernel_rfl) rfl (by kernel_rfl) rfl rfl Tryd.underlying25 rfl ?_
  refine ax_val (v := .pointer (some ⟨g4, 2, none⟩)) (.pointer (some ⟨g4, 2, none⟩)) HB (by kernel_rfl) (by kernel_rfl) (rfl) ?_
  refine ax_load 25 (.tmp 10) 1 g4 2 125 [.int .i64 u, .int .i64 v, .int .i64 f] (.int .i64 f) _ HB HL9 (by kernel_rfl) rfl (by kernel_rfl) rfl rfl Tryd.underlying25 rfl ?_
  refine ax_newS 25 [.int .i64 e, .int .i64 f] 2 2 HB HL9 (by kernel_rfl) (by kernel_rfl) ?_
  intro g10 w11 HL12
  clear HL9
  refine ax_call 168 #[.slice (some ⟨g10, 0, none⟩) 2 2] (.int .i64 (if e = 0 then f else e)) HB HL12 (by kernel_rfl) (by kernel_rfl) (or_any g10 e f w11 (HL12.get (i := 0) rfl).lt ((HL12.get (i := 0) rfl).cell rfl) ((HL12.get (i := 0) rfl).cell rfl)) ?_
  intro w13 HL14
  clear HL12
  refine ax_val (v := .int .i64 (if e = 0 then f else e)) (.int .i64 (if e = 0 then f else e)) HB (by kernel_rfl) (by kernel_rfl) (rfl) ?_
  refine aw_nil ?_
  refine aw_n_then ?_
  refine aw_seq ?_
  refine aw_reg ?_
  refine ax_val (v := .int .i64 (if e = 0 then f else e)) (.int .i64 (if e = 0 then f else e)) HB (by kernel_rfl) (by kernel_rfl) (rfl) ?_
  refine ax_fork ((if e = 0 then f else e) != 0) HB (by kernel_rfl) (by kernel_rfl) ?_ ?_
  · intro f15
    have k15 := aw_neq_t f15
    refine aw_nil ?_
    refine aw_n_then ?_
    refine ax_yes HB (by kernel_rfl) ?_
    refine aw_seq ?_
    refine aw_reg ?_
    refine ax_val (v := .int .i64 (if e = 0 then f else e)) (.int .i64 (if e = 0 then f else e)) HB (by kernel_rfl) (by kernel_rfl) (rfl) ?_
    refine ax_call 130 #[.int .i64 (if e = 0 then f else e)] (.agg #[.int .i64 0, .int .i64 0, .int .i64 (if e = 0 then f else e)]) HB HL14 (by kernel_rfl) (by kernel_rfl) (failed_any (if e = 0 then f else e) w13) ?_
    intro w17 HL18
    clear HL14
    refine ax_store 125 (.tmp 6) (.tmp 17) 1 g7 0 125 [.int .i64 0, .int .i64 0, .int .i64 0] [.int .i64 0, .int .i64 0, .int .i64 (if e = 0 then f else e)] [.int .i64 0, .int .i64 0, .int .i64 (if e = 0 then f else e)] [(g10, 25, [.int .i64 e, .int .i64 f]), (g7, 125, [.int .i64 0, .int .i64 0, .int .i64 (if e = 0 then f else e)]), (g4, 125, [.int .i64 u, .int .i64 v, .int .i64 f]), (g1, 125, [.int .i64 x, .int .i64 y, .int .i64 e])] HB HL18 (by kernel_rfl) rfl (by kernel_rfl) (by kernel_rfl) rfl (by kernel_rfl) (by kernel_rfl) (Nat.le_of_ble_eq_true rfl) rfl rfl ?_
    intro w19 HL20
    clear HL18
    refine aw_nil ?_
    refine aw_n_then ?_
    refine aw_ret ?_
    refine aw_r_then ?_
    refine aw_end (.agg #[.int .i64 0, .int .i64 0, .int .i64 (if e = 0 then f else e)]) (by kernel_rfl) (res_c Tryd.results136 (by kernel_rfl) (loc_var HL20 (i := 1) rfl Tryd.underlying125 rfl (by kernel_rfl))) ?_
    exact ⟨by rw [with_err k15]; rfl, HL20.bel⟩
  · intro f16
    have k16 := aw_neq_f f16
    refine aw_nil ?_
    refine aw_n_then ?_
    refine ax_no HB (by kernel_rfl) ?_
    refine aw_skip0 ?_
    refine aw_n_then ?_
    refine aw_seq ?_
    refine aw_reg ?_
    refine ax_val (v := .func (.func 141) #[] #[]) (.func (.func 141) #[] #[]) HB (by kernel_rfl) (by kernel_rfl) (rfl) ?_
    refine ax_val (v := .pointer (some ⟨g1, 0, none⟩)) (.pointer (some ⟨g1, 0, none⟩)) HB (by kernel_rfl) (by kernel_rfl) (rfl) ?_
    refine ax_val (v := .pointer (some ⟨g1, 0, none⟩)) (.pointer (some ⟨g1, 0, none⟩)) HB (by kernel_rfl) (by kernel_rfl) (rfl) ?_
    refine ax_mid 55 (.tmp 20) 3 g1 0 125 [.int .i64 x, .int .i64 y, .int .i64 e] [.int .i64 x, .int .i64 y] _ HB HL14 (by kernel_rfl) rfl (by kernel_rfl) rfl rfl Tryd.underlying55 rfl (by kernel_rfl) ?_
    refine ax_val (v := .pointer (some ⟨g4, 0, none⟩)) (.pointer (some ⟨g4, 0, none⟩)) HB (by kernel_rfl) (by kernel_rfl) (rfl) ?_
    refine ax_val (v := .pointer (some ⟨g4, 0, none⟩)) (.pointer (some ⟨g4, 0, none⟩)) HB (by kernel_rfl) (by kernel_rfl) (rfl) ?_
    refine ax_mid 55 (.tmp 23) 2 g4 0 125 [.int .i64 u, .int .i64 v, .int .i64 f] [.int .i64 u, .int .i64 v] _ HB HL14 (by kernel_rfl) rfl (by kernel_rfl) rfl rfl Tryd.underlying55 rfl (by kernel_rfl) ?_
    refine ax_call 141 #[.agg #[.int .i64 x, .int .i64 y], .agg #[.int .i64 u, .int .i64 v]] (.tuple #[.agg #[.int .i64 ((divE (x, y) (u, v)).1.1), .int .i64 ((divE (x, y) (u, v)).1.2)], .int .i64 ((divE (x, y) (u, v)).2)]) HB HL14 (by kernel_rfl) (by kernel_rfl) (div_any (x, y) (u, v) w13 ⟨hI.1, hI.2.1⟩ ⟨hI.2.2.1, hI.2.2.2⟩) ?_
    intro w21 HL22
    clear HL14
    refine ax_val (v := .agg #[.int .i64 ((divE (x, y) (u, v)).1.1), .int .i64 ((divE (x, y) (u, v)).1.2)]) (.agg #[.int .i64 ((divE (x, y) (u, v)).1.1), .int .i64 ((divE (x, y) (u, v)).1.2)]) HB (by kernel_rfl) (by kernel_rfl) (rfl) ?_
    refine ax_val (v := .int .i64 ((divE (x, y) (u, v)).2)) (.int .i64 ((divE (x, y) (u, v)).2)) HB (by kernel_rfl) (by kernel_rfl) (rfl) ?_
    refine ax_call 135 #[.agg #[.int .i64 ((divE (x, y) (u, v)).1.1), .int .i64 ((divE (x, y) (u, v)).1.2)], .int .i64 ((divE (x, y) (u, v)).2)] (.agg #[.int .i64 ((divE (x, y) (u, v)).1.1), .int .i64 ((divE (x, y) (u, v)).1.2), .int .i64 ((divE (x, y) (u, v)).2)]) HB HL22 (by kernel_rfl) (by kernel_rfl) (calculated_any ((divE (x, y) (u, v)).1.1) ((divE (x, y) (u, v)).1.2) ((divE (x, y) (u, v)).2) w21) ?_
    intro w23 HL24
    clear HL22
    refine ax_store 125 (.tmp 6) (.tmp 28) 1 g7 0 125 [.int .i64 0, .int .i64 0, .int .i64 0] [.int .i64 ((divE (x, y) (u, v)).1.1), .int .i64 ((divE (x, y) (u, v)).1.2), .int .i64 ((divE (x, y) (u, v)).2)] [.int .i64 ((divE (x, y) (u, v)).1.1), .int .i64 ((divE (x, y) (u, v)).1.2), .int .i64 ((divE (x, y) (u, v)).2)] [(g10, 25, [.int .i64 e, .int .i64 f]), (g7, 125, [.int .i64 ((divE (x, y) (u, v)).1.1), .int .i64 ((divE (x, y) (u, v)).1.2), .int .i64 ((divE (x, y) (u, v)).2)]), (g4, 125, [.int .i64 u, .int .i64 v, .int .i64 f]), (g1, 125, [.int .i64 x, .int .i64 y, .int .i64 e])] HB HL24 (by kernel_rfl) rfl (by kernel_rfl) (by kernel_rfl) rfl (by kernel_rfl) (by kernel_rfl) (Nat.le_of_ble_eq_true rfl) rfl rfl ?_
    intro w25 HL26
    clear HL24
    refine aw_nil ?_
    refine aw_n_then ?_
    refine aw_ret ?_
    refine aw_end (.agg #[.int .i64 ((divE (x, y) (u, v)).1.1), .int .i64 ((divE (x, y) (u, v)).1.2), .int .i64 ((divE (x, y) (u, v)).2)]) (by kernel_rfl) (res_c Tryd.results136 (by kernel_rfl) (loc_var HL26 (i := 1) rfl Tryd.underlying125 rfl (by kernel_rfl))) ?_
    exact ⟨by rw [with_fine k16]; rfl, HL26.bel⟩

set_option maxRecDepth 100000 in
set_option maxHeartbeats 2000000 in
theorem plus_any (x y e u v f : Int) (w : World) (hI : I3 x y u v) : Calls Tryd.prog 80 #[.agg #[.int .i64 x, .int .i64 y, .int .i64 e], .agg #[.int .i64 u, .int .i64 v, .int .i64 f]] w fun r w' => r = .returned (calV (withE addW ((x, y), e) ((u, v), f))) ∧ Below w.heap.size w w' := by
  refine calls_of_wp Tryd.func80 rfl ?_
  refine Boxw.out (ax_in ?_)
  have HB : Array.size ((#[.agg #[.int .i64 x, .int .i64 y, .int .i64 e], .agg #[.int .i64 u, .int .i64 v, .int .i64 f]] : Array Value) ++ Array.replicate (Func.ntmps Tryd.f80 - Array.size (#[.agg #[.int .i64 x, .int .i64 y, .int .i64 e], .agg #[.int .i64 u, .int .i64 v, .int .i64 f]] : Array Value)) undef) = 8 := by kernel_rfl
  have HL0 := Loc.start w
  refine aw_seq ?_
  refine aw_reg ?_
  refine ax_new 125 [.int .i64 x, .int .i64 y, .int .i64 e] HB HL0 (by kernel_rfl) (by kernel_rfl) ?_
  intro g1 w2 HL3
  clear HL0
  refine ax_new 125 [.int .i64 u, .int .i64 v, .int .i64 f] HB HL3 (by kernel_rfl) (by kernel_rfl) ?_
  intro g4 w5 HL6
  clear HL3
  refine ax_new 125 [.int .i64 0, .int .i64 0, .int .i64 0] HB HL6 (by kernel_rfl) (by kernel_rfl) ?_
  intro g7 w8 HL9
  clear HL6
  refine aw_nil ?_
  refine aw_n_then ?_
  refine aw_seq ?_
  refine aw_reg ?_
  refine ax_mid 125 (.tmp 2) 2 g1 0 125 [.int .i64 x, .int .i64 y, .int .i64 e] [.int .i64 x, .int .i64 y, .int .i64 e] _ HB HL9 (by kernel_rfl) rfl (by kernel_rfl) rfl rfl Tryd.underlying125 rfl (by kernel_rfl) ?_
  refine ax_mid 125 (.tmp 3) 1 g4 0 125 [.int .i64 u, .int .i64 v, .int .i64 f] [.int .i64 u, .int .i64 v, .int .i64 f] _ HB HL9 (by kernel_rfl) rfl (by kernel_rfl) rfl rfl Tryd.underlying125 rfl (by kernel_rfl) ?_
  refine ax_call 136 #[.agg #[.int .i64 x, .int .i64 y, .int .i64 e], .func (.func 137) #[] #[], .agg #[.int .i64 u, .int .i64 v, .int .i64 f]] (.agg #[.int .i64 ((withE addW ((x, y), e) ((u, v), f)).1.1), .int .i64 ((withE addW ((x, y), e) ((u, v), f)).1.2), .int .i64 ((withE addW ((x, y), e) ((u, v), f)).2)]) HB HL9 (by kernel_rfl) (by kernel_rfl) (withAdd x y e u v f w8 hI) ?_
  intro w10 HL11
  clear HL9
  refine ax_store 125 (.tmp 4) (.tmp 7) 0 g7 0 125 [.int .i64 0, .int .i64 0, .int .i64 0] [.int .i64 ((withE addW ((x, y), e) ((u, v), f)).1.1), .int .i64 ((withE addW ((x, y), e) ((u, v), f)).1.2), .int .i64 ((withE addW ((x, y), e) ((u, v), f)).2)] [.int .i64 ((withE addW ((x, y), e) ((u, v), f)).1.1), .int .i64 ((withE addW ((x, y), e) ((u, v), f)).1.2), .int .i64 ((withE addW ((x, y), e) ((u, v), f)).2)] [(g7, 125, [.int .i64 ((withE addW ((x, y), e) ((u, v), f)).1.1), .int .i64 ((withE addW ((x, y), e) ((u, v), f)).1.2), .int .i64 ((withE addW ((x, y), e) ((u, v), f)).2)]), (g4, 125, [.int .i64 u, .int .i64 v, .int .i64 f]), (g1, 125, [.int .i64 x, .int .i64 y, .int .i64 e])] HB HL11 (by kernel_rfl) rfl (by kernel_rfl) (by kernel_rfl) rfl (by kernel_rfl) (by kernel_rfl) (Nat.le_of_ble_eq_true rfl) rfl rfl ?_
  intro w12 HL13
  clear HL11
  refine aw_nil ?_
  refine aw_n_then ?_
  refine aw_ret ?_
  refine aw_end (.agg #[.int .i64 ((withE addW ((x, y), e) ((u, v), f)).1.1), .int .i64 ((withE addW ((x, y), e) ((u, v), f)).1.2), .int .i64 ((withE addW ((x, y), e) ((u, v), f)).2)]) (by kernel_rfl) (res_c Tryd.results80 (by kernel_rfl) (loc_var HL13 (i := 0) rfl Tryd.underlying125 rfl (by kernel_rfl))) ?_
  exact ⟨rfl, HL13.bel⟩

set_option maxRecDepth 100000 in
set_option maxHeartbeats 2000000 in
theorem minus_any (x y e u v f : Int) (w : World) (hI : I3 x y u v) : Calls Tryd.prog 131 #[.agg #[.int .i64 x, .int .i64 y, .int .i64 e], .agg #[.int .i64 u, .int .i64 v, .int .i64 f]] w fun r w' => r = .returned (calV (withE subW ((x, y), e) ((u, v), f))) ∧ Below w.heap.size w w' := by
  refine calls_of_wp Tryd.func131 rfl ?_
  refine Boxw.out (ax_in ?_)
  have HB : Array.size ((#[.agg #[.int .i64 x, .int .i64 y, .int .i64 e], .agg #[.int .i64 u, .int .i64 v, .int .i64 f]] : Array Value) ++ Array.replicate (Func.ntmps Tryd.f131 - Array.size (#[.agg #[.int .i64 x, .int .i64 y, .int .i64 e], .agg #[.int .i64 u, .int .i64 v, .int .i64 f]] : Array Value)) undef) = 8 := by kernel_rfl
  have HL0 := Loc.start w
  refine aw_seq ?_
  refine aw_reg ?_
  refine ax_new 125 [.int .i64 x, .int .i64 y, .int .i64 e] HB HL0 (by kernel_rfl) (by kernel_rfl) ?_
  intro g1 w2 HL3
  clear HL0
  refine ax_new 125 [.int .i64 u, .int .i64 v, .int .i64 f] HB HL3 (by kernel_rfl) (by kernel_rfl) ?_
  intro g4 w5 HL6
  clear HL3
  refine ax_new 125 [.int .i64 0, .int .i64 0, .int .i64 0] HB HL6 (by kernel_rfl) (by kernel_rfl) ?_
  intro g7 w8 HL9
  clear HL6
  refine aw_nil ?_
  refine aw_n_then ?_
  refine aw_seq ?_
  refine aw_reg ?_
  refine ax_mid 125 (.tmp 2) 2 g1 0 125 [.int .i64 x, .int .i64 y, .int .i64 e] [.int .i64 x, .int .i64 y, .int .i64 e] _ HB HL9 (by kernel_rfl) rfl (by kernel_rfl) rfl rfl Tryd.underlying125 rfl (by kernel_rfl) ?_
  refine ax_mid 125 (.tmp 3) 1 g4 0 125 [.int .i64 u, .int .i64 v, .int .i64 f] [.int .i64 u, .int .i64 v, .int .i64 f] _ HB HL9 (by kernel_rfl) rfl (by kernel_rfl) rfl rfl Tryd.underlying125 rfl (by kernel_rfl) ?_
  refine ax_call 136 #[.agg #[.int .i64 x, .int .i64 y, .int .i64 e], .func (.func 166) #[] #[], .agg #[.int .i64 u, .int .i64 v, .int .i64 f]] (.agg #[.int .i64 ((withE subW ((x, y), e) ((u, v), f)).1.1), .int .i64 ((withE subW ((x, y), e) ((u, v), f)).1.2), .int .i64 ((withE subW ((x, y), e) ((u, v), f)).2)]) HB HL9 (by kernel_rfl) (by kernel_rfl) (withSub x y e u v f w8 hI) ?_
  intro w10 HL11
  clear HL9
  refine ax_store 125 (.tmp 4) (.tmp 7) 0 g7 0 125 [.int .i64 0, .int .i64 0, .int .i64 0] [.int .i64 ((withE subW ((x, y), e) ((u, v), f)).1.1), .int .i64 ((withE subW ((x, y), e) ((u, v), f)).1.2), .int .i64 ((withE subW ((x, y), e) ((u, v), f)).2)] [.int .i64 ((withE subW ((x, y), e) ((u, v), f)).1.1), .int .i64 ((withE subW ((x, y), e) ((u, v), f)).1.2), .int .i64 ((withE subW ((x, y), e) ((u, v), f)).2)] [(g7, 125, [.int .i64 ((withE subW ((x, y), e) ((u, v), f)).1.1), .int .i64 ((withE subW ((x, y), e) ((u, v), f)).1.2), .int .i64 ((withE subW ((x, y), e) ((u, v), f)).2)]), (g4, 125, [.int .i64 u, .int .i64 v, .int .i64 f]), (g1, 125, [.int .i64 x, .int .i64 y, .int .i64 e])] HB HL11 (by kernel_rfl) rfl (by kernel_rfl) (by kernel_rfl) rfl (by kernel_rfl) (by kernel_rfl) (Nat.le_of_ble_eq_true rfl) rfl rfl ?_
  intro w12 HL13
  clear HL11
  refine aw_nil ?_
  refine aw_n_then ?_
  refine aw_ret ?_
  refine aw_end (.agg #[.int .i64 ((withE subW ((x, y), e) ((u, v), f)).1.1), .int .i64 ((withE subW ((x, y), e) ((u, v), f)).1.2), .int .i64 ((withE subW ((x, y), e) ((u, v), f)).2)]) (by kernel_rfl) (res_c Tryd.results131 (by kernel_rfl) (loc_var HL13 (i := 0) rfl Tryd.underlying125 rfl (by kernel_rfl))) ?_
  exact ⟨rfl, HL13.bel⟩

set_option maxRecDepth 100000 in
set_option maxHeartbeats 2000000 in
theorem times_any (x y e u v f : Int) (w : World) (hI : I3 x y u v) : Calls Tryd.prog 172 #[.agg #[.int .i64 x, .int .i64 y, .int .i64 e], .agg #[.int .i64 u, .int .i64 v, .int .i64 f]] w fun r w' => r = .returned (calV (withE mulW ((x, y), e) ((u, v), f))) ∧ Below w.heap.size w w' := by
  refine calls_of_wp Tryd.func172 rfl ?_
  refine Boxw.out (ax_in ?_)
  have HB : Array.size ((#[.agg #[.int .i64 x, .int .i64 y, .int .i64 e], .agg #[.int .i64 u, .int .i64 v, .int .i64 f]] : Array Value) ++ Array.replicate (Func.ntmps Tryd.f172 - Array.size (#[.agg #[.int .i64 x, .int .i64 y, .int .i64 e], .agg #[.int .i64 u, .int .i64 v, .int .i64 f]] : Array Value)) undef) = 8 := by kernel_rfl
  have HL0 := Loc.start w
  refine aw_seq ?_
  refine aw_reg ?_
  refine ax_new 125 [.int .i64 x, .int .i64 y, .int .i64 e] HB HL0 (by kernel_rfl) (by kernel_rfl) ?_
  intro g1 w2 HL3
  clear HL0
  refine ax_new 125 [.int .i64 u, .int .i64 v, .int .i64 f] HB HL3 (by kernel_rfl) (by kernel_rfl) ?_
  intro g4 w5 HL6
  clear HL3
  refine ax_new 125 [.int .i64 0, .int .i64 0, .int .i64 0] HB HL6 (by kernel_rfl) (by kernel_rfl) ?_
  intro g7 w8 HL9
  clear HL6
  refine aw_nil ?_
  refine aw_n_then ?_
  refine aw_seq ?_
  refine aw_reg ?_
  refine ax_mid 125 (.tmp 2) 2 g1 0 125 [.int .i64 x, .int .i64 y, .int .i64 e] [.int .i64 x, .int .i64 y, .int .i64 e] _ HB HL9 (by kernel_rfl) rfl (by kernel_rfl) rfl rfl Tryd.underlying125 rfl (by kernel_rfl) ?_
  refine ax_mid 125 (.tmp 3) 1 g4 0 125 [.int .i64 u, .int .i64 v, .int .i64 f] [.int .i64 u, .int .i64 v, .int .i64 f] _ HB HL9 (by kernel_rfl) rfl (by kernel_rfl) rfl rfl Tryd.underlying125 rfl (by kernel_rfl) ?_
  refine ax_call 136 #[.agg #[.int .i64 x, .int .i64 y, .int .i64 e], .func (.func 189) #[] #[], .agg #[.int .i64 u, .int .i64 v, .int .i64 f]] (.agg #[.int .i64 ((withE mulW ((x, y), e) ((u, v), f)).1.1), .int .i64 ((withE mulW ((x, y), e) ((u, v), f)).1.2), .int .i64 ((withE mulW ((x, y), e) ((u, v), f)).2)]) HB HL9 (by kernel_rfl) (by kernel_rfl) (withMul x y e u v f w8 hI) ?_
  intro w10 HL11
  clear HL9
  refine ax_store 125 (.tmp 4) (.tmp 7) 0 g7 0 125 [.int .i64 0, .int .i64 0, .int .i64 0] [.int .i64 ((withE mulW ((x, y), e) ((u, v), f)).1.1), .int .i64 ((withE mulW ((x, y), e) ((u, v), f)).1.2), .int .i64 ((withE mulW ((x, y), e) ((u, v), f)).2)] [.int .i64 ((withE mulW ((x, y), e) ((u, v), f)).1.1), .int .i64 ((withE mulW ((x, y), e) ((u, v), f)).1.2), .int .i64 ((withE mulW ((x, y), e) ((u, v), f)).2)] [(g7, 125, [.int .i64 ((withE mulW ((x, y), e) ((u, v), f)).1.1), .int .i64 ((withE mulW ((x, y), e) ((u, v), f)).1.2), .int .i64 ((withE mulW ((x, y), e) ((u, v), f)).2)]), (g4, 125, [.int .i64 u, .int .i64 v, .int .i64 f]), (g1, 125, [.int .i64 x, .int .i64 y, .int .i64 e])] HB HL11 (by kernel_rfl) rfl (by kernel_rfl) (by kernel_rfl) rfl (by kernel_rfl) (by kernel_rfl) (Nat.le_of_ble_eq_true rfl) rfl rfl ?_
  intro w12 HL13
  clear HL11
  refine aw_nil ?_
  refine aw_n_then ?_
  refine aw_ret ?_
  refine aw_end (.agg #[.int .i64 ((withE mulW ((x, y), e) ((u, v), f)).1.1), .int .i64 ((withE mulW ((x, y), e) ((u, v), f)).1.2), .int .i64 ((withE mulW ((x, y), e) ((u, v), f)).2)]) (by kernel_rfl) (res_c Tryd.results172 (by kernel_rfl) (loc_var HL13 (i := 0) rfl Tryd.underlying125 rfl (by kernel_rfl))) ?_
  exact ⟨rfl, HL13.bel⟩

set_option maxRecDepth 100000 in
set_option maxHeartbeats 2000000 in
theorem over_any (x y e u v f : Int) (w : World) (hI : I3 x y u v) : Calls Tryd.prog 83 #[.agg #[.int .i64 x, .int .i64 y, .int .i64 e], .agg #[.int .i64 u, .int .i64 v, .int .i64 f]] w fun r w' => r = .returned (calV (withE divE ((x, y), e) ((u, v), f))) ∧ Below w.heap.size w w' := by
  refine calls_of_wp Tryd.func83 rfl ?_
  refine Boxw.out (ax_in ?_)
  have HB : Array.size ((#[.agg #[.int .i64 x, .int .i64 y, .int .i64 e], .agg #[.int .i64 u, .int .i64 v, .int .i64 f]] : Array Value) ++ Array.replicate (Func.ntmps Tryd.f83 - Array.size (#[.agg #[.int .i64 x, .int .i64 y, .int .i64 e], .agg #[.int .i64 u, .int .i64 v, .int .i64 f]] : Array Value)) undef) = 8 := by kernel_rfl
  have HL0 := Loc.start w
  refine aw_seq ?_
  refine aw_reg ?_
  refine ax_new 125 [.int .i64 x, .int .i64 y, .int .i64 e] HB HL0 (by kernel_rfl) (by kernel_rfl) ?_
  intro g1 w2 HL3
  clear HL0
  refine ax_new 125 [.int .i64 u, .int .i64 v, .int .i64 f] HB HL3 (by kernel_rfl) (by kernel_rfl) ?_
  intro g4 w5 HL6
  clear HL3
  refine ax_new 125 [.int .i64 0, .int .i64 0, .int .i64 0] HB HL6 (by kernel_rfl) (by kernel_rfl) ?_
  intro g7 w8 HL9
  clear HL6
  refine aw_nil ?_
  refine aw_n_then ?_
  refine aw_seq ?_
  refine aw_reg ?_
  refine ax_mid 125 (.tmp 2) 2 g1 0 125 [.int .i64 x, .int .i64 y, .int .i64 e] [.int .i64 x, .int .i64 y, .int .i64 e] _ HB HL9 (by kernel_rfl) rfl (by kernel_rfl) rfl rfl Tryd.underlying125 rfl (by kernel_rfl) ?_
  refine ax_mid 125 (.tmp 3) 1 g4 0 125 [.int .i64 u, .int .i64 v, .int .i64 f] [.int .i64 u, .int .i64 v, .int .i64 f] _ HB HL9 (by kernel_rfl) rfl (by kernel_rfl) rfl rfl Tryd.underlying125 rfl (by kernel_rfl) ?_
  refine ax_call 136 #[.agg #[.int .i64 x, .int .i64 y, .int .i64 e], .func (.func 141) #[] #[], .agg #[.int .i64 u, .int .i64 v, .int .i64 f]] (.agg #[.int .i64 ((withE divE ((x, y), e) ((u, v), f)).1.1), .int .i64 ((withE divE ((x, y), e) ((u, v), f)).1.2), .int .i64 ((withE divE ((x, y), e) ((u, v), f)).2)]) HB HL9 (by kernel_rfl) (by kernel_rfl) (withDiv x y e u v f w8 hI) ?_
  intro w10 HL11
  clear HL9
  refine ax_store 125 (.tmp 4) (.tmp 7) 0 g7 0 125 [.int .i64 0, .int .i64 0, .int .i64 0] [.int .i64 ((withE divE ((x, y), e) ((u, v), f)).1.1), .int .i64 ((withE divE ((x, y), e) ((u, v), f)).1.2), .int .i64 ((withE divE ((x, y), e) ((u, v), f)).2)] [.int .i64 ((withE divE ((x, y), e) ((u, v), f)).1.1), .int .i64 ((withE divE ((x, y), e) ((u, v), f)).1.2), .int .i64 ((withE divE ((x, y), e) ((u, v), f)).2)] [(g7, 125, [.int .i64 ((withE divE ((x, y), e) ((u, v), f)).1.1), .int .i64 ((withE divE ((x, y), e) ((u, v), f)).1.2), .int .i64 ((withE divE ((x, y), e) ((u, v), f)).2)]), (g4, 125, [.int .i64 u, .int .i64 v, .int .i64 f]), (g1, 125, [.int .i64 x, .int .i64 y, .int .i64 e])] HB HL11 (by kernel_rfl) rfl (by kernel_rfl) (by kernel_rfl) rfl (by kernel_rfl) (by kernel_rfl) (Nat.le_of_ble_eq_true rfl) rfl rfl ?_
  intro w12 HL13
  clear HL11
  refine aw_nil ?_
  refine aw_n_then ?_
  refine aw_ret ?_
  refine aw_end (.agg #[.int .i64 ((withE divE ((x, y), e) ((u, v), f)).1.1), .int .i64 ((withE divE ((x, y), e) ((u, v), f)).1.2), .int .i64 ((withE divE ((x, y), e) ((u, v), f)).2)]) (by kernel_rfl) (res_c Tryd.results83 (by kernel_rfl) (loc_var HL13 (i := 0) rfl Tryd.underlying125 rfl (by kernel_rfl))) ?_
  exact ⟨rfl, HL13.bel⟩

theorem root2_any (a : Int × Int) (w : World) (ha : I64 a.1 ∧ I64 a.2) : Calls Tryd.prog 191 #[ivV a, .int .i64 2] w fun e w' => e = .returned (ivE (rt2 a)) ∧ Below w.heap.size w w' := by
  refine (root_fn_any a 2 w ha (by unfold I64; decide)).mono ?_
  rintro e w' ⟨r, he, hb, h1, h2, h3, h4⟩
  have := rt2_eq (a := a) (r := r) ⟨h1, fun g g' => h3 g (by decide) (by decide) g', fun g g' => h4 g (by decide) (by decide) g'⟩
  exact ⟨by rw [he, this], hb⟩
set_option maxRecDepth 100000 in
set_option maxHeartbeats 2000000 in
theorem scaled1_any (x y n d : Int) (gn gd : Nat) (w : World) (hI : I3 x y n d) (hgn : gn < w.heap.size) (hn : w.cell? ⟨gn, 0, none⟩ = some (.int .i64 n)) (hgd : gd < w.heap.size) (hd : w.cell? ⟨gd, 0, none⟩ = some (.int .i64 d)) : Calls Tryd.prog 175 #[.agg #[.int .i64 x, .int .i64 y], .pointer (some ⟨gn, 0, none⟩), .pointer (some ⟨gd, 0, none⟩)] w fun r w' => r = .returned (.tuple #[.agg #[.int .i64 ((scaleE (x, y) n d).1.1), .int .i64 ((scaleE (x, y) n d).1.2)], .int .i64 ((scaleE (x, y) n d).2)]) ∧ Below w.heap.size w w' := by
  refine calls_of_wp Tryd.func175 rfl ?_
  refine Boxw.out (ax_in ?_)
  have HB : Array.size ((#[.agg #[.int .i64 x, .int .i64 y], .pointer (some ⟨gn, 0, none⟩), .pointer (some ⟨gd, 0, none⟩)] : Array Value) ++ Array.replicate (Func.ntmps Tryd.f175 - Array.size (#[.agg #[.int .i64 x, .int .i64 y], .pointer (some ⟨gn, 0, none⟩), .pointer (some ⟨gd, 0, none⟩)] : Array Value)) undef) = 12 := by kernel_rfl
  have HL0 := Loc.start w
  refine aw_seq ?_
  refine aw_reg ?_
  refine ax_new 55 [.int .i64 x, .int .i64 y] HB HL0 (by kernel_rfl) (by kernel_rfl) ?_
  intro g1 w2 HL3
  clear HL0
  refine ax_new 55 [.int .i64 0, .int .i64 0] HB HL3 (by kernel_rfl) (by kernel_rfl) ?_
  intro g4 w5 HL6
  clear HL3
  refine ax_val (v := .int .i64 0) (.int .i64 0) HB (by kernel_rfl) (by kernel_rfl) (rfl) ?_
  refine aw_nil ?_
  refine aw_n_then ?_
  refine aw_seq ?_
  refine aw_reg ?_
  refine ax_mid 55 (.tmp 3) 1 g1 0 55 [.int .i64 x, .int .i64 y] [.int .i64 x, .int .i64 y] _ HB HL6 (by kernel_rfl) rfl (by kernel_rfl) rfl rfl Tryd.underlying55 rfl (by kernel_rfl) ?_
  refine ax_loadA 2 (.tmp 1) ⟨gn, 0, none⟩ (.int .i64 n) _ HB (by kernel_rfl) rfl (by kernel_rfl) (loc_old HL6 ⟨hn, hgn⟩) Tryd.underlying2 rfl ?_
  refine ax_loadA 2 (.tmp 2) ⟨gd, 0, none⟩ (.int .i64 d) _ HB (by kernel_rfl) rfl (by kernel_rfl) (loc_old HL6 ⟨hd, hgd⟩) Tryd.underlying2 rfl ?_
  refine ax_call 176 #[.agg #[.int .i64 x, .int .i64 y], .int .i64 n, .int .i64 d] (.tuple #[.agg #[.int .i64 ((scaleE (x, y) n d).1.1), .int .i64 ((scaleE (x, y) n d).1.2)], .int .i64 ((scaleE (x, y) n d).2)]) HB HL6 (by kernel_rfl) (by kernel_rfl) (scale_any (x, y) n d w5 ⟨hI.1, hI.2.1⟩ hI.2.2.1 hI.2.2.2) ?_
  intro w7 HL8
  clear HL6
  refine ax_val (v := .agg #[.int .i64 ((scaleE (x, y) n d).1.1), .int .i64 ((scaleE (x, y) n d).1.2)]) (.agg #[.int .i64 ((scaleE (x, y) n d).1.1), .int .i64 ((scaleE (x, y) n d).1.2)]) HB (by kernel_rfl) (by kernel_rfl) (rfl) ?_
  refine ax_val (v := .int .i64 ((scaleE (x, y) n d).2)) (.int .i64 ((scaleE (x, y) n d).2)) HB (by kernel_rfl) (by kernel_rfl) (rfl) ?_
  refine ax_store 55 (.tmp 4) (.tmp 10) 0 g4 0 55 [.int .i64 0, .int .i64 0] [.int .i64 ((scaleE (x, y) n d).1.1), .int .i64 ((scaleE (x, y) n d).1.2)] [.int .i64 ((scaleE (x, y) n d).1.1), .int .i64 ((scaleE (x, y) n d).1.2)] [(g4, 55, [.int .i64 ((scaleE (x, y) n d).1.1), .int .i64 ((scaleE (x, y) n d).1.2)]), (g1, 55, [.int .i64 x, .int .i64 y])] HB HL8 (by kernel_rfl) rfl (by kernel_rfl) (by kernel_rfl) rfl (by kernel_rfl) (by kernel_rfl) (Nat.le_of_ble_eq_true rfl) rfl rfl ?_
  intro w9 HL10
  clear HL8
  refine ax_val (v := .int .i64 ((scaleE (x, y) n d).2)) (.int .i64 ((scaleE (x, y) n d).2)) HB (by kernel_rfl) (by kernel_rfl) (rfl) ?_
  refine aw_nil ?_
  refine aw_n_then ?_
  refine aw_ret ?_
  refine aw_end (.tuple #[.agg #[.int .i64 ((scaleE (x, y) n d).1.1), .int .i64 ((scaleE (x, y) n d).1.2)], .int .i64 ((scaleE (x, y) n d).2)]) (by kernel_rfl) (res_ct Tryd.results175 (by kernel_rfl) (by kernel_rfl) (loc_var HL10 (i := 0) rfl Tryd.underlying55 rfl (by kernel_rfl))) ?_
  exact ⟨rfl, HL10.bel⟩

set_option maxRecDepth 100000 in
set_option maxHeartbeats 2000000 in
theorem root1_any (x y : Int) (w : World) (hI : I64 x ∧ I64 y) : Calls Tryd.prog 190 #[.agg #[.int .i64 x, .int .i64 y]] w fun r w' => r = .returned (.tuple #[.agg #[.int .i64 ((rt2 (x, y)).1.1), .int .i64 ((rt2 (x, y)).1.2)], .int .i64 ((rt2 (x, y)).2)]) ∧ Below w.heap.size w w' := by
  refine calls_of_wp Tryd.func190 rfl ?_
  refine Boxw.out (ax_in ?_)
  have HB : Array.size ((#[.agg #[.int .i64 x, .int .i64 y]] : Array Value) ++ Array.replicate (Func.ntmps Tryd.f190 - Array.size (#[.agg #[.int .i64 x, .int .i64 y]] : Array Value)) undef) = 8 := by kernel_rfl
  have HL0 := Loc.start w
  refine aw_seq ?_
  refine aw_reg ?_
  refine ax_new 55 [.int .i64 x, .int .i64 y] HB HL0 (by kernel_rfl) (by kernel_rfl) ?_
  intro g1 w2 HL3
  clear HL0
  refine ax_new 55 [.int .i64 0, .int .i64 0] HB HL3 (by kernel_rfl) (by kernel_rfl) ?_
  intro g4 w5 HL6
  clear HL3
  refine ax_val (v := .int .i64 0) (.int .i64 0) HB (by kernel_rfl) (by kernel_rfl) (rfl) ?_
  refine aw_nil ?_
  refine aw_n_then ?_
  refine aw_seq ?_
  refine aw_reg ?_
  refine ax_mid 55 (.tmp 1) 1 g1 0 55 [.int .i64 x, .int .i64 y] [.int .i64 x, .int .i64 y] _ HB HL6 (by kernel_rfl) rfl (by kernel_rfl) rfl rfl Tryd.underlying55 rfl (by kernel_rfl) ?_
  refine ax_call 191 #[.agg #[.int .i64 x, .int .i64 y], .int .i64 2] (.tuple #[.agg #[.int .i64 ((rt2 (x, y)).1.1), .int .i64 ((rt2 (x, y)).1.2)], .int .i64 ((rt2 (x, y)).2)]) HB HL6 (by kernel_rfl) (by kernel_rfl) (root2_any (x, y) w5 hI) ?_
  intro w7 HL8
  clear HL6
  refine ax_val (v := .agg #[.int .i64 ((rt2 (x, y)).1.1), .int .i64 ((rt2 (x, y)).1.2)]) (.agg #[.int .i64 ((rt2 (x, y)).1.1), .int .i64 ((rt2 (x, y)).1.2)]) HB (by kernel_rfl) (by kernel_rfl) (rfl) ?_
  refine ax_val (v := .int .i64 ((rt2 (x, y)).2)) (.int .i64 ((rt2 (x, y)).2)) HB (by kernel_rfl) (by kernel_rfl) (rfl) ?_
  refine ax_store 55 (.tmp 2) (.tmp 6) 0 g4 0 55 [.int .i64 0, .int .i64 0] [.int .i64 ((rt2 (x, y)).1.1), .int .i64 ((rt2 (x, y)).1.2)] [.int .i64 ((rt2 (x, y)).1.1), .int .i64 ((rt2 (x, y)).1.2)] [(g4, 55, [.int .i64 ((rt2 (x, y)).1.1), .int .i64 ((rt2 (x, y)).1.2)]), (g1, 55, [.int .i64 x, .int .i64 y])] HB HL8 (by kernel_rfl) rfl (by kernel_rfl) (by kernel_rfl) rfl (by kernel_rfl) (by kernel_rfl) (Nat.le_of_ble_eq_true rfl) rfl rfl ?_
  intro w9 HL10
  clear HL8
  refine ax_val (v := .int .i64 ((rt2 (x, y)).2)) (.int .i64 ((rt2 (x, y)).2)) HB (by kernel_rfl) (by kernel_rfl) (rfl) ?_
  refine aw_nil ?_
  refine aw_n_then ?_
  refine aw_ret ?_
  refine aw_end (.tuple #[.agg #[.int .i64 ((rt2 (x, y)).1.1), .int .i64 ((rt2 (x, y)).1.2)], .int .i64 ((rt2 (x, y)).2)]) (by kernel_rfl) (res_ct Tryd.results190 (by kernel_rfl) (by kernel_rfl) (loc_var HL10 (i := 0) rfl Tryd.underlying55 rfl (by kernel_rfl))) ?_
  exact ⟨rfl, HL10.bel⟩

set_option maxRecDepth 100000 in
set_option maxHeartbeats 2000000 in
theorem thruScale (x y e n d : Int) (gn gd : Nat) (w : World) (hI : I3 x y n d) (hgn : gn < w.heap.size) (hn : w.cell? ⟨gn, 0, none⟩ = some (.int .i64 n)) (hgd : gd < w.heap.size) (hd : w.cell? ⟨gd, 0, none⟩ = some (.int .i64 d)) : Calls Tryd.prog 174 #[.agg #[.int .i64 x, .int .i64 y, .int .i64 e], .func (.func 175) #[] #[.pointer (some ⟨gn, 0, none⟩), .pointer (some ⟨gd, 0, none⟩)]] w fun r w' => r = .returned (calV (thruE (fun a => scaleE a n d) ((x, y), e))) ∧ Below w.heap.size w w' := by
  refine calls_of_wp Tryd.func174 rfl ?_
  refine Boxw.out (ax_in ?_)
  have HB : Array.size ((#[.agg #[.int .i64 x, .int .i64 y, .int .i64 e], .func (.func 175) #[] #[.pointer (some ⟨gn, 0, none⟩), .pointer (some ⟨gd, 0, none⟩)]] : Array Value) ++ Array.replicate (Func.ntmps Tryd.f174 - Array.size (#[.agg #[.int .i64 x, .int .i64 y, .int .i64 e], .func (.func 175) #[] #[.pointer (some ⟨gn, 0, none⟩), .pointer (some ⟨gd, 0, none⟩)]] : Array Value)) undef) = 17 := by kernel_rfl
  have HL0 := Loc.start w
  refine aw_seq ?_
  refine aw_reg ?_
  refine ax_new 125 [.int .i64 x, .int .i64 y, .int .i64 e] HB HL0 (by kernel_rfl) (by kernel_rfl) ?_
  intro g1 w2 HL3
  clear HL0
  refine ax_new 125 [.int .i64 0, .int .i64 0, .int .i64 0] HB HL3 (by kernel_rfl) (by kernel_rfl) ?_
  intro g4 w5 HL6
  clear HL3
  refine aw_nil ?_
  refine aw_n_then ?_
  refine aw_seq ?_
  refine aw_seq ?_
  refine aw_reg ?_
  refine ax_val (v := .pointer (some ⟨g1, 2, none⟩)) (.pointer (some ⟨g1, 2, none⟩)) HB (by kernel_rfl) (by kernel_rfl) (rfl) ?_
  refine ax_load 25 (.tmp 5) 1 g1 2 125 [.int .i64 x, .int .i64 y, .int .i64 e] (.int .i64 e) _ HB HL6 (by kernel_rfl) rfl (by kernel_rfl) rfl rfl Tryd.underlying25 rfl ?_
  refine ax_fork (e != 0) HB (by kernel_rfl) (by kernel_rfl) ?_ ?_
  · intro f7
    have k7 := aw_neq_t f7
    refine aw_nil ?_
    refine aw_n_then ?_
    refine ax_yes HB (by kernel_rfl) ?_
    refine aw_seq ?_
    refine aw_reg ?_
    refine ax_mid 125 (.tmp 2) 1 g1 0 125 [.int .i64 x, .int .i64 y, .int .i64 e] [.int .i64 x, .int .i64 y, .int .i64 e] _ HB HL6 (by kernel_rfl) rfl (by kernel_rfl) rfl rfl Tryd.underlying125 rfl (by kernel_rfl) ?_
    refine ax_store 125 (.tmp 4) (.tmp 8) 0 g4 0 125 [.int .i64 0, .int .i64 0, .int .i64 0] [.int .i64 x, .int .i64 y, .int .i64 e] [.int .i64 x, .int .i64 y, .int .i64 e] [(g4, 125, [.int .i64 x, .int .i64 y, .int .i64 e]), (g1, 125, [.int .i64 x, .int .i64 y, .int .i64 e])] HB HL6 (by kernel_rfl) rfl (by kernel_rfl) (by kernel_rfl) rfl (by kernel_rfl) (by kernel_rfl) (Nat.le_of_ble_eq_true rfl) rfl rfl ?_
    intro w9 HL10
    clear HL6
    refine aw_nil ?_
    refine aw_n_then ?_
    refine aw_ret ?_
    refine aw_r_then ?_
    refine aw_end (.agg #[.int .i64 x, .int .i64 y, .int .i64 e]) (by kernel_rfl) (res_c Tryd.results174 (by kernel_rfl) (loc_var HL10 (i := 0) rfl Tryd.underlying125 rfl (by kernel_rfl))) ?_
    exact ⟨by rw [thru_err k7]; rfl, HL10.bel⟩
  · intro f8
    have k8 := aw_neq_f f8
    refine aw_nil ?_
    refine aw_n_then ?_
    refine ax_no HB (by kernel_rfl) ?_
    refine aw_skip0 ?_
    refine aw_n_then ?_
    refine aw_seq ?_
    refine aw_reg ?_
    refine ax_val (v := .func (.func 175) #[] #[.pointer (some ⟨gn, 0, none⟩), .pointer (some ⟨gd, 0, none⟩)]) (.func (.func 175) #[] #[.pointer (some ⟨gn, 0, none⟩), .pointer (some ⟨gd, 0, none⟩)]) HB (by kernel_rfl) (by kernel_rfl) (rfl) ?_
    refine ax_val (v := .pointer (some ⟨g1, 0, none⟩)) (.pointer (some ⟨g1, 0, none⟩)) HB (by kernel_rfl) (by kernel_rfl) (rfl) ?_
    refine ax_val (v := .pointer (some ⟨g1, 0, none⟩)) (.pointer (some ⟨g1, 0, none⟩)) HB (by kernel_rfl) (by kernel_rfl) (rfl) ?_
    refine ax_mid 55 (.tmp 11) 1 g1 0 125 [.int .i64 x, .int .i64 y, .int .i64 e] [.int .i64 x, .int .i64 y] _ HB HL6 (by kernel_rfl) rfl (by kernel_rfl) rfl rfl Tryd.underlying55 rfl (by kernel_rfl) ?_
    refine ax_call 175 #[.agg #[.int .i64 x, .int .i64 y], .pointer (some ⟨gn, 0, none⟩), .pointer (some ⟨gd, 0, none⟩)] (.tuple #[.agg #[.int .i64 ((scaleE (x, y) n d).1.1), .int .i64 ((scaleE (x, y) n d).1.2)], .int .i64 ((scaleE (x, y) n d).2)]) HB HL6 (by kernel_rfl) (by kernel_rfl) (scaled1_any x y n d gn gd w5 hI (Nat.lt_of_lt_of_le hgn HL6.bel.size) (loc_old HL6 ⟨hn, hgn⟩) (Nat.lt_of_lt_of_le hgd HL6.bel.size) (loc_old HL6 ⟨hd, hgd⟩)) ?_
    intro w11 HL12
    clear HL6
    refine ax_val (v := .agg #[.int .i64 ((scaleE (x, y) n d).1.1), .int .i64 ((scaleE (x, y) n d).1.2)]) (.agg #[.int .i64 ((scaleE (x, y) n d).1.1), .int .i64 ((scaleE (x, y) n d).1.2)]) HB (by kernel_rfl) (by kernel_rfl) (rfl) ?_
    refine ax_val (v := .int .i64 ((scaleE (x, y) n d).2)) (.int .i64 ((scaleE (x, y) n d).2)) HB (by kernel_rfl) (by kernel_rfl) (rfl) ?_
    refine ax_call 135 #[.agg #[.int .i64 ((scaleE (x, y) n d).1.1), .int .i64 ((scaleE (x, y) n d).1.2)], .int .i64 ((scaleE (x, y) n d).2)] (.agg #[.int .i64 ((scaleE (x, y) n d).1.1), .int .i64 ((scaleE (x, y) n d).1.2), .int .i64 ((scaleE (x, y) n d).2)]) HB HL12 (by kernel_rfl) (by kernel_rfl) (calculated_any ((scaleE (x, y) n d).1.1) ((scaleE (x, y) n d).1.2) ((scaleE (x, y) n d).2) w11) ?_
    intro w13 HL14
    clear HL12
    refine ax_store 125 (.tmp 4) (.tmp 16) 0 g4 0 125 [.int .i64 0, .int .i64 0, .int .i64 0] [.int .i64 ((scaleE (x, y) n d).1.1), .int .i64 ((scaleE (x, y) n d).1.2), .int .i64 ((scaleE (x, y) n d).2)] [.int .i64 ((scaleE (x, y) n d).1.1), .int .i64 ((scaleE (x, y) n d).1.2), .int .i64 ((scaleE (x, y) n d).2)] [(g4, 125, [.int .i64 ((scaleE (x, y) n d).1.1), .int .i64 ((scaleE (x, y) n d).1.2), .int .i64 ((scaleE (x, y) n d).2)]), (g1, 125, [.int .i64 x, .int .i64 y, .int .i64 e])] HB HL14 (by kernel_rfl) rfl (by kernel_rfl) (by kernel_rfl) rfl (by kernel_rfl) (by kernel_rfl) (Nat.le_of_ble_eq_true rfl) rfl rfl ?_
    intro w15 HL16
    clear HL14
    refine aw_nil ?_
    refine aw_n_then ?_
    refine aw_ret ?_
    refine aw_end (.agg #[.int .i64 ((scaleE (x, y) n d).1.1), .int .i64 ((scaleE (x, y) n d).1.2), .int .i64 ((scaleE (x, y) n d).2)]) (by kernel_rfl) (res_c Tryd.results174 (by kernel_rfl) (loc_var HL16 (i := 0) rfl Tryd.underlying125 rfl (by kernel_rfl))) ?_
    exact ⟨by rw [thru_fine k8]; rfl, HL16.bel⟩

set_option maxRecDepth 100000 in
set_option maxHeartbeats 2000000 in
theorem thruRoot (x y e : Int) (w : World) (hI : I64 x ∧ I64 y) : Calls Tryd.prog 174 #[.agg #[.int .i64 x, .int .i64 y, .int .i64 e], .func (.func 190) #[] #[]] w fun r w' => r = .returned (calV (thruE rt2 ((x, y), e))) ∧ Below w.heap.size w w' := by
  refine calls_of_wp Tryd.func174 rfl ?_
  refine Boxw.out (ax_in ?_)
  have HB : Array.size ((#[.agg #[.int .i64 x, .int .i64 y, .int .i64 e], .func (.func 190) #[] #[]] : Array Value) ++ Array.replicate (Func.ntmps Tryd.f174 - Array.size (#[.agg #[.int .i64 x, .int .i64 y, .int .i64 e], .func (.func 190) #[] #[]] : Array Value)) undef) = 17 := by kernel_rfl
  have HL0 := Loc.start w
  refine aw_seq ?_
  refine aw_reg ?_
  refine ax_new 125 [.int .i64 x, .int .i64 y, .int .i64 e] HB HL0 (by kernel_rfl) (by kernel_rfl) ?_
  intro g1 w2 HL3
  clear HL0
  refine ax_new 125 [.int .i64 0, .int .i64 0, .int .i64 0] HB HL3 (by kernel_rfl) (by kernel_rfl) ?_
  intro g4 w5 HL6
  clear HL3
  refine aw_nil ?_
  refine aw_n_then ?_
  refine aw_seq ?_
  refine aw_seq ?_
  refine aw_reg ?_
  refine ax_val (v := .pointer (some ⟨g1, 2, none⟩)) (.pointer (some ⟨g1, 2, none⟩)) HB (by kernel_rfl) (by kernel_rfl) (rfl) ?_
  refine ax_load 25 (.tmp 5) 1 g1 2 125 [.int .i64 x, .int .i64 y, .int .i64 e] (.int .i64 e) _ HB HL6 (by kernel_rfl) rfl (by kernel_rfl) rfl rfl Tryd.underlying25 rfl ?_
  refine ax_fork (e != 0) HB (by kernel_rfl) (by kernel_rfl) ?_ ?_
  · intro f7
    have k7 := aw_neq_t f7
    refine aw_nil ?_
    refine aw_n_then ?_
    refine ax_yes HB (by kernel_rfl) ?_
    refine aw_seq ?_
    refine aw_reg ?_
    refine ax_mid 125 (.tmp 2) 1 g1 0 125 [.int .i64 x, .int .i64 y, .int .i64 e] [.int .i64 x, .int .i64 y, .int .i64 e] _ HB HL6 (by kernel_rfl) rfl (by kernel_rfl) rfl rfl Tryd.underlying125 rfl (by kernel_rfl) ?_
    refine ax_store 125 (.tmp 4) (.tmp 8) 0 g4 0 125 [.int .i64 0, .int .i64 0, .int .i64 0] [.int .i64 x, .int .i64 y, .int .i64 e] [.int .i64 x, .int .i64 y, .int .i64 e] [(g4, 125, [.int .i64 x, .int .i64 y, .int .i64 e]), (g1, 125, [.int .i64 x, .int .i64 y, .int .i64 e])] HB HL6 (by kernel_rfl) rfl (by kernel_rfl) (by kernel_rfl) rfl (by kernel_rfl) (by kernel_rfl) (Nat.le_of_ble_eq_true rfl) rfl rfl ?_
    intro w9 HL10
    clear HL6
    refine aw_nil ?_
    refine aw_n_then ?_
    refine aw_ret ?_
    refine aw_r_then ?_
    refine aw_end (.agg #[.int .i64 x, .int .i64 y, .int .i64 e]) (by kernel_rfl) (res_c Tryd.results174 (by kernel_rfl) (loc_var HL10 (i := 0) rfl Tryd.underlying125 rfl (by kernel_rfl))) ?_
    exact ⟨by rw [thru_err k7]; rfl, HL10.bel⟩
  · intro f8
    have k8 := aw_neq_f f8
    refine aw_nil ?_
    refine aw_n_then ?_
    refine ax_no HB (by kernel_rfl) ?_
    refine aw_skip0 ?_
    refine aw_n_then ?_
    refine aw_seq ?_
    refine aw_reg ?_
    refine ax_val (v := .func (.func 190) #[] #[]) (.func (.func 190) #[] #[]) HB (by kernel_rfl) (by kernel_rfl) (rfl) ?_
    refine ax_val (v := .pointer (some ⟨g1, 0, none⟩)) (.pointer (some ⟨g1, 0, none⟩)) HB (by kernel_rfl) (by kernel_rfl) (rfl) ?_
    refine ax_val (v := .pointer (some ⟨g1, 0, none⟩)) (.pointer (some ⟨g1, 0, none⟩)) HB (by kernel_rfl) (by kernel_rfl) (rfl) ?_
    refine ax_mid 55 (.tmp 11) 1 g1 0 125 [.int .i64 x, .int .i64 y, .int .i64 e] [.int .i64 x, .int .i64 y] _ HB HL6 (by kernel_rfl) rfl (by kernel_rfl) rfl rfl Tryd.underlying55 rfl (by kernel_rfl) ?_
    refine ax_call 190 #[.agg #[.int .i64 x, .int .i64 y]] (.tuple #[.agg #[.int .i64 ((rt2 (x, y)).1.1), .int .i64 ((rt2 (x, y)).1.2)], .int .i64 ((rt2 (x, y)).2)]) HB HL6 (by kernel_rfl) (by kernel_rfl) (root1_any x y w5 hI) ?_
    intro w11 HL12
    clear HL6
    refine ax_val (v := .agg #[.int .i64 ((rt2 (x, y)).1.1), .int .i64 ((rt2 (x, y)).1.2)]) (.agg #[.int .i64 ((rt2 (x, y)).1.1), .int .i64 ((rt2 (x, y)).1.2)]) HB (by kernel_rfl) (by kernel_rfl) (rfl) ?_
    refine ax_val (v := .int .i64 ((rt2 (x, y)).2)) (.int .i64 ((rt2 (x, y)).2)) HB (by kernel_rfl) (by kernel_rfl) (rfl) ?_
    refine ax_call 135 #[.agg #[.int .i64 ((rt2 (x, y)).1.1), .int .i64 ((rt2 (x, y)).1.2)], .int .i64 ((rt2 (x, y)).2)] (.agg #[.int .i64 ((rt2 (x, y)).1.1), .int .i64 ((rt2 (x, y)).1.2), .int .i64 ((rt2 (x, y)).2)]) HB HL12 (by kernel_rfl) (by kernel_rfl) (calculated_any ((rt2 (x, y)).1.1) ((rt2 (x, y)).1.2) ((rt2 (x, y)).2) w11) ?_
    intro w13 HL14
    clear HL12
    refine ax_store 125 (.tmp 4) (.tmp 16) 0 g4 0 125 [.int .i64 0, .int .i64 0, .int .i64 0] [.int .i64 ((rt2 (x, y)).1.1), .int .i64 ((rt2 (x, y)).1.2), .int .i64 ((rt2 (x, y)).2)] [.int .i64 ((rt2 (x, y)).1.1), .int .i64 ((rt2 (x, y)).1.2), .int .i64 ((rt2 (x, y)).2)] [(g4, 125, [.int .i64 ((rt2 (x, y)).1.1), .int .i64 ((rt2 (x, y)).1.2), .int .i64 ((rt2 (x, y)).2)]), (g1, 125, [.int .i64 x, .int .i64 y, .int .i64 e])] HB HL14 (by kernel_rfl) rfl (by kernel_rfl) (by kernel_rfl) rfl (by kernel_rfl) (by kernel_rfl) (Nat.le_of_ble_eq_true rfl) rfl rfl ?_
    intro w15 HL16
    clear HL14
    refine aw_nil ?_
    refine aw_n_then ?_
    refine aw_ret ?_
    refine aw_end (.agg #[.int .i64 ((rt2 (x, y)).1.1), .int .i64 ((rt2 (x, y)).1.2), .int .i64 ((rt2 (x, y)).2)]) (by kernel_rfl) (res_c Tryd.results174 (by kernel_rfl) (loc_var HL16 (i := 0) rfl Tryd.underlying125 rfl (by kernel_rfl))) ?_
    exact ⟨by rw [thru_fine k8]; rfl, HL16.bel⟩

set_option maxRecDepth 100000 in
set_option maxHeartbeats 2000000 in
theorem scaled_any (x y e n d : Int) (w : World) (hI : I3 x y n d) : Calls Tryd.prog 140 #[.agg #[.int .i64 x, .int .i64 y, .int .i64 e], .int .i64 n, .int .i64 d] w fun r w' => r = .returned (calV (thruE (fun a => scaleE a n d) ((x, y), e))) ∧ Below w.heap.size w w' := by
  refine calls_of_wp Tryd.func140 rfl ?_
  refine Boxw.out (ax_in ?_)
  have HB : Array.size ((#[.agg #[.int .i64 x, .int .i64 y, .int .i64 e], .int .i64 n, .int .i64 d] : Array Value) ++ Array.replicate (Func.ntmps Tryd.f140 - Array.size (#[.agg #[.int .i64 x, .int .i64 y, .int .i64 e], .int .i64 n, .int .i64 d] : Array Value)) undef) = 10 := by kernel_rfl
  have HL0 := Loc.start w
  refine aw_seq ?_
  refine aw_reg ?_
  refine ax_new 125 [.int .i64 x, .int .i64 y, .int .i64 e] HB HL0 (by kernel_rfl) (by kernel_rfl) ?_
  intro g1 w2 HL3
  clear HL0
  refine ax_new 2 [.int .i64 n] HB HL3 (by kernel_rfl) (by kernel_rfl) ?_
  intro g4 w5 HL6
  clear HL3
  refine ax_new 2 [.int .i64 d] HB HL6 (by kernel_rfl) (by kernel_rfl) ?_
  intro g7 w8 HL9
  clear HL6
  refine ax_new 125 [.int .i64 0, .int .i64 0, .int .i64 0] HB HL9 (by kernel_rfl) (by kernel_rfl) ?_
  intro g10 w11 HL12
  clear HL9
  refine aw_nil ?_
  refine aw_n_then ?_
  refine aw_seq ?_
  refine aw_reg ?_
  refine ax_mid 125 (.tmp 3) 3 g1 0 125 [.int .i64 x, .int .i64 y, .int .i64 e] [.int .i64 x, .int .i64 y, .int .i64 e] _ HB HL12 (by kernel_rfl) rfl (by kernel_rfl) rfl rfl Tryd.underlying125 rfl (by kernel_rfl) ?_
  refine ax_val (v := .func (.func 175) #[] #[.pointer (some ⟨g4, 0, none⟩), .pointer (some ⟨g7, 0, none⟩)]) (.func (.func 175) #[] #[.pointer (some ⟨g4, 0, none⟩), .pointer (some ⟨g7, 0, none⟩)]) HB (by kernel_rfl) (by kernel_rfl) (rfl) ?_
  refine ax_call 174 #[.agg #[.int .i64 x, .int .i64 y, .int .i64 e], .func (.func 175) #[] #[.pointer (some ⟨g4, 0, none⟩), .pointer (some ⟨g7, 0, none⟩)]] (.agg #[.int .i64 ((thruE (fun a => scaleE a n d) ((x, y), e)).1.1), .int .i64 ((thruE (fun a => scaleE a n d) ((x, y), e)).1.2), .int .i64 ((thruE (fun a => scaleE a n d) ((x, y), e)).2)]) HB HL12 (by kernel_rfl) (by kernel_rfl) (thruScale x y e n d g4 g7 w11 hI (HL12.get (i := 2) rfl).lt ((HL12.get (i := 2) rfl).cell rfl) (HL12.get (i := 1) rfl).lt ((HL12.get (i := 1) rfl).cell rfl)) ?_
  intro w13 HL14
  clear HL12
  refine ax_store 125 (.tmp 6) (.tmp 9) 0 g10 0 125 [.int .i64 0, .int .i64 0, .int .i64 0] [.int .i64 ((thruE (fun a => scaleE a n d) ((x, y), e)).1.1), .int .i64 ((thruE (fun a => scaleE a n d) ((x, y), e)).1.2), .int .i64 ((thruE (fun a => scaleE a n d) ((x, y), e)).2)] [.int .i64 ((thruE (fun a => scaleE a n d) ((x, y), e)).1.1), .int .i64 ((thruE (fun a => scaleE a n d) ((x, y), e)).1.2), .int .i64 ((thruE (fun a => scaleE a n d) ((x, y), e)).2)] [(g10, 125, [.int .i64 ((thruE (fun a => scaleE a n d) ((x, y), e)).1.1), .int .i64 ((thruE (fun a => scaleE a n d) ((x, y), e)).1.2), .int .i64 ((thruE (fun a => scaleE a n d) ((x, y), e)).2)]), (g7, 2, [.int .i64 d]), (g4, 2, [.int .i64 n]), (g1, 125, [.int .i64 x, .int .i64 y, .int .i64 e])] HB HL14 (by kernel_rfl) rfl (by kernel_rfl) (by kernel_rfl) rfl (by kernel_rfl) (by kernel_rfl) (Nat.le_of_ble_eq_true rfl) rfl rfl ?_
  intro w15 HL16
  clear HL14
  refine aw_nil ?_
  refine aw_n_then ?_
  refine aw_ret ?_
  refine aw_end (.agg #[.int .i64 ((thruE (fun a => scaleE a n d) ((x, y), e)).1.1), .int .i64 ((thruE (fun a => scaleE a n d) ((x, y), e)).1.2), .int .i64 ((thruE (fun a => scaleE a n d) ((x, y), e)).2)]) (by kernel_rfl) (res_c Tryd.results140 (by kernel_rfl) (loc_var HL16 (i := 0) rfl Tryd.underlying125 rfl (by kernel_rfl))) ?_
  exact ⟨rfl, HL16.bel⟩

set_option maxRecDepth 100000 in
set_option maxHeartbeats 2000000 in
theorem squareRoot_any (x y e : Int) (w : World) (hI : I64 x ∧ I64 y) : Calls Tryd.prog 173 #[.agg #[.int .i64 x, .int .i64 y, .int .i64 e]] w fun r w' => r = .returned (calV (thruE rt2 ((x, y), e))) ∧ Below w.heap.size w w' := by
  refine calls_of_wp Tryd.func173 rfl ?_
  refine Boxw.out (ax_in ?_)
  have HB : Array.size ((#[.agg #[.int .i64 x, .int .i64 y, .int .i64 e]] : Array Value) ++ Array.replicate (Func.ntmps Tryd.f173 - Array.size (#[.agg #[.int .i64 x, .int .i64 y, .int .i64 e]] : Array Value)) undef) = 5 := by kernel_rfl
  have HL0 := Loc.start w
  refine aw_seq ?_
  refine aw_reg ?_
  refine ax_new 125 [.int .i64 x, .int .i64 y, .int .i64 e] HB HL0 (by kernel_rfl) (by kernel_rfl) ?_
  intro g1 w2 HL3
  clear HL0
  refine ax_new 125 [.int .i64 0, .int .i64 0, .int .i64 0] HB HL3 (by kernel_rfl) (by kernel_rfl) ?_
  intro g4 w5 HL6
  clear HL3
  refine aw_nil ?_
  refine aw_n_then ?_
  refine aw_seq ?_
  refine aw_reg ?_
  refine ax_mid 125 (.tmp 1) 1 g1 0 125 [.int .i64 x, .int .i64 y, .int .i64 e] [.int .i64 x, .int .i64 y, .int .i64 e] _ HB HL6 (by kernel_rfl) rfl (by kernel_rfl) rfl rfl Tryd.underlying125 rfl (by kernel_rfl) ?_
  refine ax_call 174 #[.agg #[.int .i64 x, .int .i64 y, .int .i64 e], .func (.func 190) #[] #[]] (.agg #[.int .i64 ((thruE rt2 ((x, y), e)).1.1), .int .i64 ((thruE rt2 ((x, y), e)).1.2), .int .i64 ((thruE rt2 ((x, y), e)).2)]) HB HL6 (by kernel_rfl) (by kernel_rfl) (thruRoot x y e w5 hI) ?_
  intro w7 HL8
  clear HL6
  refine ax_store 125 (.tmp 2) (.tmp 4) 0 g4 0 125 [.int .i64 0, .int .i64 0, .int .i64 0] [.int .i64 ((thruE rt2 ((x, y), e)).1.1), .int .i64 ((thruE rt2 ((x, y), e)).1.2), .int .i64 ((thruE rt2 ((x, y), e)).2)] [.int .i64 ((thruE rt2 ((x, y), e)).1.1), .int .i64 ((thruE rt2 ((x, y), e)).1.2), .int .i64 ((thruE rt2 ((x, y), e)).2)] [(g4, 125, [.int .i64 ((thruE rt2 ((x, y), e)).1.1), .int .i64 ((thruE rt2 ((x, y), e)).1.2), .int .i64 ((thruE rt2 ((x, y), e)).2)]), (g1, 125, [.int .i64 x, .int .i64 y, .int .i64 e])] HB HL8 (by kernel_rfl) rfl (by kernel_rfl) (by kernel_rfl) rfl (by kernel_rfl) (by kernel_rfl) (Nat.le_of_ble_eq_true rfl) rfl rfl ?_
  intro w9 HL10
  clear HL8
  refine aw_nil ?_
  refine aw_n_then ?_
  refine aw_ret ?_
  refine aw_end (.agg #[.int .i64 ((thruE rt2 ((x, y), e)).1.1), .int .i64 ((thruE rt2 ((x, y), e)).1.2), .int .i64 ((thruE rt2 ((x, y), e)).2)]) (by kernel_rfl) (res_c Tryd.results173 (by kernel_rfl) (loc_var HL10 (i := 0) rfl Tryd.underlying125 rfl (by kernel_rfl))) ?_
  exact ⟨rfl, HL10.bel⟩

end Go.Proofs.YtmbcejldifobnaaDoor.Ln
