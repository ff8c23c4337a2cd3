import Derived.Test.YtdncfignegagjaaDoorW6
namespace Go.Proofs.YtdncfignegagjaaDoor
open Go.RowKit

def Drawn (w w' : World) : Prop := ∃ n, w' = w.drewN n
theorem Drawn.below {w w' : World} (h : Drawn w w') : Below w.heap.size w w' := by obtain ⟨n, rfl⟩ := h; exact below_drewN w n

theorem drewN_drewN (w : World) (a b : Nat) : (w.drewN a).drewN b = w.drewN (a + b) := by
  induction b with
  | zero => rfl
  | succ b ih => show ((w.drewN a).drewN b).drew = (w.drewN (a + b)).drew; rw [ih]
theorem drawn_drewN {w w' : World} (h : Drawn w w') (n : Nat) : Drawn w (w'.drewN n) := by
  obtain ⟨m, rfl⟩ := h; exact ⟨m + n, drewN_drewN w m n⟩
theorem drawn_drew {w w' : World} (h : Drawn w w') : Drawn w w'.drew := by
  obtain ⟨m, rfl⟩ := h; exact ⟨m + 1, rfl⟩

set_option maxHeartbeats 400000 in
theorem gcd_any (a b : Nat) (w : World) (ha : (a : Int) ≤ 9223372036854775807) (hb : (b : Int) ≤ 9223372036854775807) :
    Calls Tryd.prog 74 #[.int .i64 a, .int .i64 b] w fun e w' => e = .returned (.int .i64 (Nat.gcd a b : Nat)) ∧ Drawn w w' := by
  go_enter Tryd.func74, Tryd.ntmps74
  go_wp2
  go_loopw [0, 1] (fun x y wr => ∃ a' b' : Nat, x = .int .i64 a' ∧ y = .int .i64 b' ∧ Nat.gcd a' b' = Nat.gcd a b ∧ (a' : Int) ≤ 9223372036854775807 ∧ (b' : Int) ≤ 9223372036854775807 ∧ Drawn w wr) (fun _ y _ => (intOf y).toNat)
  case atStart => exact ⟨a, b, rfl, rfl, rfl, ha, hb, 0, rfl⟩
  case round =>
    obtain ⟨a', b', rfl, rfl, hg, h1, h2, hd⟩ := hrel
    have Hg := Lib.hid hg
    clear hg
    by_cases h0 : b' = 0
    · have q1 : ((b' : Int) == 0) = true := by simp [h0]
      have q2 : ((b' : Int) != 0) = false := by simp [h0]
      have H0 := Lib.hid h0
      clear h0
      go_wp2
      go_ret
      exact ⟨ret_int (by have := Hg.out; rw [H0.out, Nat.gcd_zero_right] at this; rw [this]), hd⟩
    · have q1 : ((b' : Int) == 0) = false := by simp [h0]
      have q2 : ((b' : Int) != 0) = true := by simp [h0]
      have q3 : 0 < (b' : Int) := by omega
      go_wp2
      go_quiet (fail)
      have e1 : Nat.gcd b' (a' % b') = Nat.gcd a b := by rw [Nat.gcd_comm b', ← Nat.gcd_rec, Nat.gcd_comm b' a']; exact Hg.out
      have lt : a' % b' < b' := Nat.mod_lt _ (by omega)
      go_roundw
      case rel =>
        refine ⟨_, _, _, _, _, _, _, _, ?_, rfl⟩
        exact ⟨b', a' % b', rfl, by go_num, e1, h2, by omega, drawn_drewN hd _⟩
      case measure => simp [intOf]; omega

def footB (num den : Int) : Bool := decide (1 ≤ den) && decide (den ≤ 15) && decide (1 ≤ num) && decide (num ≤ 64 * den) && decide (Nat.gcd num.toNat den.toNat = 1)
theorem footB_no {num den : Int} (h : ¬ (1 ≤ den ∧ den ≤ 15 ∧ 1 ≤ num ∧ num ≤ 64 * den)) : footB num den = false := by
  unfold footB
  rw [Bool.eq_false_iff]
  intro e
  simp only [Bool.and_eq_true, decide_eq_true_eq] at e
  exact h ⟨e.1.1.1.1, e.1.1.1.2, e.1.1.2, e.1.2⟩
theorem footB_gcd {num den : Int} (h : 1 ≤ den ∧ den ≤ 15 ∧ 1 ≤ num ∧ num ≤ 64 * den) : footB num den = decide (Nat.gcd num.toNat den.toNat = 1) := by
  unfold footB
  rw [decide_eq_true h.1, decide_eq_true h.2.1, decide_eq_true h.2.2.1, decide_eq_true h.2.2.2]; simp

def BoxBelow (w w' : World) : Prop := Below w.heap.size w w'
set_option maxHeartbeats 1000000 in
theorem footage_any (num den : Int) (w : World) (hn : -9223372036854775808 ≤ num ∧ num ≤ 9223372036854775807) (hd : -9223372036854775808 ≤ den ∧ den ≤ 9223372036854775807) :
    Calls Tryd.prog 54 #[.agg #[.int .i64 num, .int .i64 den]] w fun e w' => e = .returned (.bool (footB num den)) ∧ Below w.heap.size w w' := by
  by_cases h1 : den < 1
  · have hf := Lib.hid (footB_no (num := num) (den := den) (by omega))
    go_enter Tryd.func54, Tryd.ntmps54
    go_wp2_with fail
    go_ret
    exact ⟨ret_bool hf.out.symm, (Below.refl _ _).alloc (Nat.le_refl _) _⟩
  by_cases h2 : 15 < den
  · have hf := Lib.hid (footB_no (num := num) (den := den) (by omega))
    go_enter Tryd.func54, Tryd.ntmps54
    go_wp2_with fail
    go_ret
    exact ⟨ret_bool hf.out.symm, (Below.refl _ _).alloc (Nat.le_refl _) _⟩
  by_cases h3 : num < 1
  · have hf := Lib.hid (footB_no (num := num) (den := den) (by omega))
    go_enter Tryd.func54, Tryd.ntmps54
    go_wp2_with fail
    go_ret
    exact ⟨ret_bool hf.out.symm, (Below.refl _ _).alloc (Nat.le_refl _) _⟩
  by_cases h4 : 64 * den < num
  · have hf := Lib.hid (footB_no (num := num) (den := den) (by omega))
    go_enter Tryd.func54, Tryd.ntmps54
    go_wp2_with fail
    go_ret
    exact ⟨ret_bool hf.out.symm, (Below.refl _ _).alloc (Nat.le_refl _) _⟩
  obtain ⟨a, rfl⟩ : ∃ a : Nat, num = a := ⟨num.toNat, by omega⟩
  obtain ⟨b, rfl⟩ : ∃ b : Nat, den = b := ⟨den.toNat, by omega⟩
  have hf := Lib.hid (footB_gcd (num := a) (den := b) (by omega))
  go_enter Tryd.func54, Tryd.ntmps54
  go_wp2_with fail
  refine (gcd_any a b _ (by omega) (by omega)).mono ?_
  rintro e w' ⟨rfl, hb⟩
  go_wp2_with fail
  go_ret
  exact ⟨ret_bool (by rw [hf.out]; apply Bool.eq_iff_iff.2; simp; omega), ((Below.refl _ _).alloc (Nat.le_refl _) _).trans (hb.below.mono (by simp))⟩
end Go.Proofs.YtdncfignegagjaaDoor
