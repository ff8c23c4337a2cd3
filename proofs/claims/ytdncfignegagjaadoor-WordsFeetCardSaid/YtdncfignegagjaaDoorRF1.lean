import Derived.Test.YtdncfignegagjaaDoorR3N
namespace Go.Proofs.YtdncfignegagjaaDoor
open Go.RowKit

def NoCommon (a b k : Nat) : Prop := ∀ m, 2 ≤ m → m < k → ¬ (a % m = 0 ∧ b % m = 0)
theorem common_hit {a b k : Nat} (hk : 2 ≤ k) (ha : a % k = 0) (hb : b % k = 0) : decide (Nat.gcd a b = 1) = false := by
  apply decide_eq_false
  intro h
  have := Nat.dvd_gcd (Nat.dvd_of_mod_eq_zero ha) (Nat.dvd_of_mod_eq_zero hb)
  rw [h] at this
  have := Nat.le_of_dvd (by omega) this
  omega
theorem common_end {a b : Nat} (hb : 1 ≤ b) (h : NoCommon a b (b + 1)) : decide (Nat.gcd a b = 1) = true := by
  apply decide_eq_true
  have h1 : 0 < Nat.gcd a b := Nat.gcd_pos_of_pos_right _ hb
  have h2 : Nat.gcd a b ≤ b := Nat.gcd_le_right _ hb
  by_cases h3 : Nat.gcd a b = 1
  · exact h3
  · exact absurd ⟨Nat.mod_eq_zero_of_dvd (Nat.gcd_dvd_left a b), Nat.mod_eq_zero_of_dvd (Nat.gcd_dvd_right a b)⟩ (h _ (by omega) (by omega))
theorem common_step {a b k : Nat} (h : NoCommon a b k) (h1 : ¬ (a % k = 0 ∧ b % k = 0)) : NoCommon a b (k + 1) := fun m a1 a2 => by
  by_cases e : m = k
  · subst e; exact h1
  · exact h m a1 (by omega)

set_option maxHeartbeats 1000000 in
theorem common_any (a b : Nat) (w : World) (hb1 : 1 ≤ b) (hb2 : (b : Int) ≤ 15) :
    Calls Tryd.prog 75 #[.int .i64 a, .int .i64 b] w fun e w' => e = .returned (.bool (!decide (Nat.gcd a b = 1))) ∧ Below w.heap.size w w' := by
  go_enter Tryd.func75, Tryd.ntmps75
  go_wp2
  go_loopw [5] (fun i wr => ∃ k : Nat, 2 ≤ k ∧ (k : Int) ≤ 16 ∧ i = .int .i64 k ∧ NoCommon a b k ∧ (k ≤ b + 1 ∨ k = 2) ∧ Below w.heap.size w wr) (fun i _ => b + 1 - (intOf i).toNat)
  case atStart => exact ⟨2, Nat.le_refl _, by omega, rfl, fun m a1 a2 => by omega, .inr rfl, Below.refl _ _⟩
  case round =>
    obtain ⟨k, hk2, hk16, rfl, hno, hkb, hb⟩ := hrel
    have Hno := Lib.hid hno
    have k0 : 0 < (k : Int) := by omega
    have a0 : 0 ≤ (a : Int) := Int.natCast_nonneg _
    have b0 : 0 ≤ (b : Int) := Int.natCast_nonneg _
    clear hno
    by_cases hlt : k ≤ b
    · have hki : (k : Int) ≤ (b : Int) := by omega
      have e1 : (a : Int) % (k : Int) = ((a % k : Nat) : Int) := by omega
      have e2 : (b : Int) % (k : Int) = ((b % k : Nat) : Int) := by omega
      have e3 : (a : Int).tmod (k : Int) = ((a % k : Nat) : Int) := by rw [Int.tmod_eq_emod_of_nonneg a0]; exact e1
      have e4 : (b : Int).tmod (k : Int) = ((b % k : Nat) : Int) := by rw [Int.tmod_eq_emod_of_nonneg b0]; exact e2
      by_cases h1 : a % k = 0
      · by_cases h2 : b % k = 0
        · have hf := Lib.hid (common_hit hk2 h1 h2)
          rw [h1] at e1 e3
          rw [h2] at e2 e4
          clear h1 h2
          go_wp2
          go_ret
          exact ⟨ret_bool (by rw [hf.out]; rfl), hb⟩
        · have hst := Lib.hid (common_step Hno.out (fun h => h2 h.2))
          have q2 : (((b % k : Nat) : Int) == 0) = false := beq_false_of_ne (by omega)
          rw [h1] at e1 e3
          clear h1 h2
          generalize b % k = p2 at e2 e4 q2
          go_wp2
          go_roundw
          case rel => exact ⟨k + 1, by omega, by omega, by go_num, hst.out, .inl (by omega), hb⟩
          case measure => simp [intOf]; omega
      · have hst := Lib.hid (common_step Hno.out (fun h => h1 h.1))
        have q1 : (((a % k : Nat) : Int) == 0) = false := beq_false_of_ne (by omega)
        clear h1 e2 e4
        generalize a % k = p1 at e1 e3 q1
        go_wp2
        go_roundw
        case rel => exact ⟨k + 1, by omega, by omega, by go_num, hst.out, .inl (by omega), hb⟩
        case measure => simp [intOf]; omega
    · have hend : NoCommon a b (b + 1) := fun m a1 a2 => by
        rcases hkb with h | h
        · exact Hno.out m a1 (by omega)
        · omega
      have hf := Lib.hid (common_end hb1 hend)
      clear hend
      have hki : ¬ (k : Int) ≤ (b : Int) := by omega
      go_wp2
      go_ret
      exact ⟨ret_bool (by rw [hf.out]; rfl), hb⟩
end Go.Proofs.YtdncfignegagjaaDoor
