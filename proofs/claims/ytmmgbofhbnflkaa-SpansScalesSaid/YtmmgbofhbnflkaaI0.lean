import Derived.Test.YtmmgbofhbnflkaaRows
import Derived.Test.YtmmgbofhbnflkaaShelf
import Derived.Test.YtmmgbofhbnflkaaIPA
import Derived.WalkKit
import Derived.WalkSpells
import Derived.WalkLawsBesides
import Derived.OpenShut
import Derived.Lib.Hide
import Derived.Lib.SmallJoins
import Derived.BigQuiet
import Derived.Deep.QuietTactic
import Derived.Deep.RegionHeld3
import Derived.Deep.Draws
import Derived.IntWalk
namespace Go.Proofs.Ytmmgbofhbnflkaa
open Go.RowKit

theorem ret_bool {a b : Bool} (h : a = b) : Ending.returned (.bool a) = .returned (.bool b) := by rw [h]
theorem ret_int {k : IntKind} {a b : Int} (h : a = b) : Ending.returned (.int k a) = .returned (.int k b) := by rw [h]
theorem ret_val {a b : Value} (h : a = b) : Ending.returned a = .returned b := by rw [h]
def ivV (a : Int × Int) : Value := .agg #[.int .i64 a.1, .int .i64 a.2]
def ivE (r : (Int × Int) × Int) : Value := .tuple #[ivV r.1, .int .i64 r.2]
def I64 (n : Int) : Prop := -9223372036854775808 ≤ n ∧ n ≤ 9223372036854775807
theorem below_alloc (w : World) (o : Obj) : Below w.heap.size w (w.alloc o) := (Below.refl _ _).alloc (Nat.le_refl _) _

theorem allowed_any (n : Int) (w : World) (_hn : I64 n) :
    Calls Try.prog 50 #[.int .i64 n] w fun e w' => e = .returned (.bool (okB n)) ∧ w = w' := by
  cases h1 : decide (-4611686018427387904 ≤ n)
  · cases h2 : decide (n ≤ 4611686018427387904)
    all_goals
      have h3 : okB n = false := by unfold okB; rw [h1, h2]; rfl
      rw [h3]
      go_enter Try.func50, Try.ntmps50
      go_wp2_with fail
      go_ret
      exact ⟨rfl, rfl⟩
  · cases h2 : decide (n ≤ 4611686018427387904)
    · have h3 : okB n = false := by unfold okB; rw [h1, h2]; rfl
      rw [h3]
      go_enter Try.func50, Try.ntmps50
      go_wp2_with fail
      go_ret
      exact ⟨rfl, rfl⟩
    · have h3 : okB n = true := by unfold okB; rw [h1, h2]; rfl
      rw [h3]
      go_enter Try.func50, Try.ntmps50
      go_wp2_with fail
      go_ret
      exact ⟨rfl, rfl⟩

set_option maxRecDepth 100000 in
theorem minus_any (a : Int × Int) (w : World) (h1 : okB a.1 = true) (h2 : okB a.2 = true) :
    Calls Try.prog 45 #[ivV a] w fun e w' => e = .returned (ivV (negI a)) ∧ Below w.heap.size w w' := by
  obtain ⟨x, y⟩ := a
  rw [okB_iff] at h1 h2
  simp only at h1 h2
  unfold ivV negI
  simp only
  go_enter Try.func45, Try.ntmps45
  go_wp2_with fail
  refine bodyPost_ret (v := .agg #[.int .i64 (-y), .int .i64 (-x)]) (by simp [results, Try.results45, go_sem]) rfl ⟨rfl, ?_⟩
  exact (below_alloc w _).trans ((below_alloc _ _).mono (below_alloc w _).size)
theorem below_alloc2 (w : World) (o o' : Obj) : Below w.heap.size w ((w.alloc o).alloc o') := (below_alloc w _).trans ((below_alloc _ _).mono (below_alloc w _).size)
theorem below_alloc3 (w : World) (o o' o'' : Obj) : Below w.heap.size w (((w.alloc o).alloc o').alloc o'') := (below_alloc2 w _ _).trans ((below_alloc _ _).mono (below_alloc2 w _ _).size)

theorem below_drewN (W : World) (n : Nat) : Below W.heap.size W (W.drewN n) := by
  induction n with
  | zero => exact Below.refl _ _
  | succ n ih => exact ih.drew
theorem below_any (a b : Int × Int) (w : World) :
    Calls Try.prog 65 #[ivV a, ivV b] w fun e w' => e = .returned (.bool (decide (a.2 < b.1))) ∧ Below w.heap.size w w' := by
  obtain ⟨x, y⟩ := a
  obtain ⟨z, u⟩ := b
  unfold ivV
  simp only
  go_enter Try.func65, Try.ntmps65
  go_wp2_with fail
  go_ret
  exact ⟨rfl, below_alloc2 w _ _⟩

theorem wrap64_of {n : Int} (h : I64 n) : wrap64 n = n := by unfold I64 at h; unfold wrap64; omega
theorem sum_wrap {x y : Int} (h1 : okB x = true) (h2 : okB y = true) : okB (wrap64 (x + y)) = okB (x + y) ∧ I64 (wrap64 (x + y)) ∧ (okB (x + y) = true → wrap64 (x + y) = x + y) := by
  rw [okB_iff] at h1 h2
  by_cases h : x + y = 9223372036854775808
  · rw [h]; unfold I64 wrap64; decide
  · have : I64 (x + y) := by unfold I64; omega
    rw [wrap64_of this]
    exact ⟨rfl, this, fun _ => rfl⟩
theorem below_alloc3d (w : World) (o o' o'' : Obj) (n : Nat) : Below w.heap.size w ((((w.alloc o).alloc o').alloc o'').drewN n) := (below_alloc3 w o o' o'').trans ((below_drewN _ n).mono (below_alloc3 w o o' o'').size)
set_option maxRecDepth 100000 in
theorem sum_any (a b : Int × Int) (w : World) (h1 : okB a.1 = true) (h2 : okB a.2 = true) (h3 : okB b.1 = true) (h4 : okB b.2 = true) :
    Calls Try.prog 43 #[ivV a, ivV b] w fun e w' => e = .returned (ivE (spanW (a.1 + b.1) (a.2 + b.2))) ∧ Below w.heap.size w w' := by
  obtain ⟨x, y⟩ := a
  obtain ⟨z, u⟩ := b
  simp only at h1 h2 h3 h4
  obtain ⟨p1, p2, p3⟩ := sum_wrap h1 h3
  obtain ⟨q1, q2, q3⟩ := sum_wrap h2 h4
  have A1 := fun w => allowed_any (wrap64 (x + z)) w p2
  have A2 := fun w => allowed_any (wrap64 (y + u)) w q2
  rw [p1] at A1
  rw [q1] at A2
  have hno : okB (x + z) = false ∨ okB (y + u) = false → ivE (spanW (x + z) (y + u)) = .tuple #[.agg #[.int .i64 0, .int .i64 0], .int .i64 7] := by
    intro h
    unfold spanW
    rcases h with h | h <;> rw [h]
    · rfl
    · rw [Bool.and_false]; rfl
  have hyes : okB (x + z) = true → okB (y + u) = true → ivE (spanW (x + z) (y + u)) = .tuple #[.agg #[.int .i64 (wrap64 (x + z)), .int .i64 (wrap64 (y + u))], .int .i64 0] := by
    intro h h'
    rw [spanW_ok h h', p3 h, q3 h']; rfl
  clear p1 p2 p3 q1 q2 q3
  unfold ivV
  show Calls _ _ _ w fun e w' => e = .returned (ivE (spanW (x + z) (y + u))) ∧ _
  generalize ivE (spanW (x + z) (y + u)) = R at *
  obtain ⟨k1, hk1⟩ : ∃ k, k = okB (x + z) := ⟨_, rfl⟩
  obtain ⟨k2, hk2⟩ : ∃ k, k = okB (y + u) := ⟨_, rfl⟩
  rw [← hk1] at A1 hno hyes
  rw [← hk2] at A2 hno hyes
  have HA1 := Lib.hid A1
  have HA2 := Lib.hid A2
  clear hk1 hk2 h1 h2 h3 h4 A1 A2
  cases k1
  · obtain rfl := hno (.inl rfl)
    clear hno hyes
    go_enter Try.func43, Try.ntmps43
    go_wp2_with fail
    go_quiet (fail)
    go_wp2_with fail
    refine (HA1.out _).mono ?_
    rintro e w1 ⟨he, rfl⟩
    subst he
    go_wp2_with fail
    refine bodyPost_ret (v := .tuple #[.agg #[.int .i64 0, .int .i64 0], .int .i64 7]) (by simp [results, Try.results43, go_sem]) rfl ⟨rfl, ?_⟩
    exact ((below_alloc3d w _ _ _ nq).setCell (p := ⟨w.heap.size + 1 + 1, 0, none⟩) (Nat.le_add_right _ 2) _).setCell (p := ⟨w.heap.size + 1 + 1, 1, none⟩) (Nat.le_add_right _ 2) _
  · cases k2
    · obtain rfl := hno (.inr rfl)
      clear hno hyes
      go_enter Try.func43, Try.ntmps43
      go_wp2_with fail
      go_quiet (fail)
      go_wp2_with fail
      refine (HA1.out _).mono ?_
      rintro e w1 ⟨he, rfl⟩
      subst he
      go_wp2_with fail
      refine (HA2.out _).mono ?_
      rintro e w1 ⟨he, rfl⟩
      subst he
      go_wp2_with fail
      refine bodyPost_ret (v := .tuple #[.agg #[.int .i64 0, .int .i64 0], .int .i64 7]) (by simp [results, Try.results43, go_sem]) rfl ⟨rfl, ?_⟩
      exact ((below_alloc3d w _ _ _ nq).setCell (p := ⟨w.heap.size + 1 + 1, 0, none⟩) (Nat.le_add_right _ 2) _).setCell (p := ⟨w.heap.size + 1 + 1, 1, none⟩) (Nat.le_add_right _ 2) _
    · obtain rfl := hyes rfl rfl
      clear hno hyes
      go_enter Try.func43, Try.ntmps43
      go_wp2_with fail
      go_quiet (fail)
      go_wp2_with fail
      refine (HA1.out _).mono ?_
      rintro e w1 ⟨he, rfl⟩
      subst he
      go_wp2_with fail
      refine (HA2.out _).mono ?_
      rintro e w1 ⟨he, rfl⟩
      subst he
      go_wp2_with fail
      refine bodyPost_ret (v := .tuple #[.agg #[.int .i64 (wrap64 (x + z)), .int .i64 (wrap64 (y + u))], .int .i64 0]) (by simp [results, Try.results43, go_sem]) rfl ⟨rfl, ?_⟩
      exact ((below_alloc3d w _ _ _ nq).setCell (p := ⟨w.heap.size + 1 + 1, 0, none⟩) (Nat.le_add_right _ 2) _).setCell (p := ⟨w.heap.size + 1 + 1, 1, none⟩) (Nat.le_add_right _ 2) _
end Go.Proofs.Ytmmgbofhbnflkaa
