import Derived.Test.YtlababdfdjjjaaaGreatDoorA1
import Derived.Test.YtlababdfdjjjaaaGreatDoorX4
namespace Go.Proofs.YtlababdfdjjjaaaGreatDoor
open Go.RowKit

/-! The contracts in the form that the laws want. -/
theorem small_zero : (dg 0).length ≤ 1000 := by rw [dg_zero]; simp
theorem small_fit (n : Nat) : (dg (fitW n).1).length ≤ 1000 := by
  unfold fitW
  by_cases h : 512 < (dg n).length
  · rw [if_pos h]; exact small_zero
  · rw [if_neg h]; show (dg n).length ≤ 1000; omega
theorem small_arg {W : World} {v : Value} {l : List Nat} {ls : List (List Nat)} (h : Arg W v l) (he : examW ls = 0) (hm : l ∈ ls) : (dg (val l)).length ≤ 512 := (h.num he hm).2.1
theorem small_le {m n : Nat} (h : m ≤ n) (hn : (dg n).length ≤ 512) : (dg m).length ≤ 1000 := Nat.le_trans (dg_mono h) (by omega)
theorem small_add (la lb : List Nat) : (dg (addW la lb).1).length ≤ 1000 := by
  unfold addW
  by_cases h : examW [la, lb] = 0
  · rw [if_pos h]; exact small_fit _
  · rw [if_neg h]; exact small_zero
theorem small_mul (la lb : List Nat) : (dg (mulW la lb).1).length ≤ 1000 := by
  unfold mulW
  by_cases h : examW [la, lb] = 0
  · rw [if_pos h]; exact small_fit _
  · rw [if_neg h]; exact small_zero
theorem small_sub {W : World} {va : Value} {la : List Nat} (ha : Arg W va la) (lb : List Nat) : (dg (subW la lb).1).length ≤ 1000 := by
  unfold subW
  by_cases h : examW [la, lb] = 0
  · rw [if_pos h]
    by_cases h2 : val la < val lb
    · rw [if_pos h2]; exact small_zero
    · rw [if_neg h2]; exact small_le (Nat.sub_le _ _) (small_arg ha h (by simp))
  · rw [if_neg h]; exact small_zero
theorem small_gcd {W : World} {va vb : Value} {la lb : List Nat} (ha : Arg W va la) (hb : Arg W vb lb) : (dg (gcdW la lb).1).length ≤ 1000 := by
  unfold gcdW
  by_cases h : examW [la, lb] = 0
  · rw [if_pos h]
    show (dg (Nat.gcd (val la) (val lb))).length ≤ 1000
    rcases Nat.eq_zero_or_pos (val la) with h0 | h0
    · rw [h0, Nat.gcd_zero_left]; have := small_arg hb h (by simp); omega
    · exact small_le (Nat.gcd_le_left _ h0) (small_arg ha h (by simp))
  · rw [if_neg h]; exact small_zero
theorem small_div {W : World} {va vb : Value} {la lb : List Nat} (ha : Arg W va la) (hb : Arg W vb lb) : (dg (divW la lb).1).length ≤ 1000 ∧ (dg (divW la lb).2.1).length ≤ 1000 := by
  unfold divW
  by_cases h : examW [la, lb] = 0
  · rw [if_pos h]
    by_cases h2 : val lb = 0
    · rw [if_pos h2]; exact ⟨small_zero, small_zero⟩
    · rw [if_neg h2]; exact ⟨small_le (Nat.div_le_self _ _) (small_arg ha h (by simp)), small_le (Nat.mod_le _ _) (small_arg ha h (by simp))⟩
  · rw [if_neg h]; exact ⟨small_zero, small_zero⟩
theorem small_shift {W : World} {va : Value} {la : List Nat} (ha : Arg W va la) (n : Int) : (dg (shiftW la n).1).length ≤ 1000 := by
  unfold shiftW
  by_cases h : examW [la] = 0
  · rw [if_pos h]
    by_cases h2 : n < -20000 ∨ 20000 < n
    · rw [if_pos h2]; exact small_zero
    · rw [if_neg h2]
      by_cases h3 : n < 0
      · rw [if_pos h3]; exact small_le (Nat.div_le_self _ _) (small_arg ha h (by simp))
      · rw [if_neg h3]; exact small_fit _
  · rw [if_neg h]; exact small_zero
theorem small_pow (l : List Nat) (k : Int) : (dg (powW l k).1).length ≤ 1000 := by
  unfold powW
  by_cases h : examW [l] = 0
  · rw [if_pos h]
    by_cases h2 : k < 0 ∨ 20000 < k
    · rw [if_pos h2]; exact small_zero
    · rw [if_neg h2]; exact small_fit _
  · rw [if_neg h]; exact small_zero
theorem small_root {W : World} {va : Value} {la : List Nat} (ha : Arg W va la) (k : Int) : (dg (rootW la k).1).length ≤ 1000 := by
  unfold rootW
  by_cases h : examW [la] = 0
  · rw [if_pos h]
    by_cases h2 : k < 1 ∨ 64 < k
    · rw [if_pos h2]; exact small_zero
    · rw [if_neg h2]
      have hr := rootN_is (val la) (k := k.toNat) (by omega)
      exact small_le (root_under (by omega) hr.1) (small_arg ha h (by simp))
  · rw [if_neg h]; exact small_zero
theorem rshift_eq {W : World} {va : Value} {la : List Nat} (ha : Arg W va la) (n : Int) : rshiftW la n = shiftW la n := rfl
theorem npow_eq (l : List Nat) (k : Int) : npowW l k = powW l k := rfl
set_option maxRecDepth 100000 in
set_option maxHeartbeats 4000000 in
theorem far_any (v : Value) (l : List Nat) (k : Int) (W : World) (h : Arg W v l) (h1 : 0 ≤ k) (h2 : k ≤ 1000) :
    ∃ b : Bool, ∀ W' : World, Calls Tryz.prog 27 #[v, .int .i64 k] W' fun e w' => e = .returned (.bool b) ∧ W' = w' := by
  obtain ⟨A, cap, rfl, -⟩ := h.1.form
  have hl := h.2
  clear h
  generalize l.length = n at *
  by_cases c1 : k < (n : Int) <;> by_cases c2 : (n : Int) < 511 <;> by_cases c3 : (520 : Int) < (n : Int)
  all_goals
    first
      | (exfalso; omega)
      | (refine ⟨(decide (k < (n : Int)) && decide ((n : Int) < 511)) || decide ((520 : Int) < (n : Int)), fun W' => ?_⟩
         simp only [c1, c2, c3, decide_true, decide_false, Bool.true_and, Bool.false_and, Bool.and_true, Bool.and_false, Bool.or_true, Bool.or_false, Bool.true_or, Bool.false_or]
         clear h1 h2 hl
         go_enter Tryz.func27, Tryz.ntmps27
         go_wp2_with fail
         go_ret
         exact ⟨rfl, rfl⟩)
/-- What far says of an argument; if it is not far, it is a number. -/
def FarOk (w : World) (v : Value) (k : Int) (l : List Nat) : Prop := ∃ b : Bool, (∀ W' : World, Calls Tryz.prog 27 #[v, .int .i64 k] W' fun e w' => e = .returned (.bool b) ∧ W' = w') ∧ (b = false → Arg w v l)
set_option maxRecDepth 100000 in
theorem far_ok (A : Option Addr) (n cap : Nat) (l : List Nat) (k : Int) (W : World) (hm : n ≤ maxLen) (h : n ≤ 100000000 → Arg W (.slice A n cap) l) (h1 : 0 ≤ k) (h2 : k ≤ 1000) : FarOk W (.slice A n cap) k l := by
  by_cases hn : n ≤ 100000000
  · obtain ⟨b, hb⟩ := far_any _ l k W (h hn) h1 h2
    exact ⟨b, hb, fun _ => h hn⟩
  · refine ⟨true, fun W' => ?_, fun h => by cases h⟩
    have c1 : k < (n : Int) := by omega
    have c2 : ¬ (n : Int) < 511 := by omega
    have c3 : (520 : Int) < (n : Int) := by omega
    clear h1 h2 hm h hn
    go_enter Tryz.func27, Tryz.ntmps27
    go_wp2_with fail
    go_ret
    exact ⟨rfl, rfl⟩
theorem cAdd (va vb : Value) (la lb : List Nat) (W : World) (ha : Arg W va la) (hb : Arg W vb lb) :
    Calls Tryz.prog 34 #[va, vb] W fun e w' => ∃ v, e = .returned (.tuple #[v, .int .i64 (addW la lb).2]) ∧ Arg w' v (dg (addW la lb).1) ∧ Below W.heap.size W w' := by
  have hs := small_add la lb
  have h := Add_any va vb la lb W ha hb
  generalize addW la lb = r at h hs ⊢
  refine h.mono ?_
  rintro e w' ⟨v, he, hn, hb⟩
  exact ⟨v, he, num_arg hn _ rfl hs, hb⟩
theorem cSub (va vb : Value) (la lb : List Nat) (W : World) (ha : Arg W va la) (hb : Arg W vb lb) :
    Calls Tryz.prog 36 #[va, vb] W fun e w' => ∃ v, e = .returned (.tuple #[v, .int .i64 (subW la lb).2]) ∧ Arg w' v (dg (subW la lb).1) ∧ Below W.heap.size W w' := by
  have hs := small_sub ha lb
  have h := Sub_any va vb la lb W ha hb
  generalize subW la lb = r at h hs ⊢
  refine h.mono ?_
  rintro e w' ⟨v, he, hn, hb⟩
  exact ⟨v, he, num_arg hn _ rfl hs, hb⟩
theorem cMul (va vb : Value) (la lb : List Nat) (W : World) (ha : Arg W va la) (hb : Arg W vb lb) :
    Calls Tryz.prog 38 #[va, vb] W fun e w' => ∃ v, e = .returned (.tuple #[v, .int .i64 (mulW la lb).2]) ∧ Arg w' v (dg (mulW la lb).1) ∧ Below W.heap.size W w' := by
  have hs := small_mul la lb
  have h := Mul_any va vb la lb W ha hb
  generalize mulW la lb = r at h hs ⊢
  refine h.mono ?_
  rintro e w' ⟨v, he, hn, hb⟩
  exact ⟨v, he, num_arg hn _ rfl hs, hb⟩
theorem cGcd (va vb : Value) (la lb : List Nat) (W : World) (ha : Arg W va la) (hb : Arg W vb lb) :
    Calls Tryz.prog 42 #[va, vb] W fun e w' => ∃ v, e = .returned (.tuple #[v, .int .i64 (gcdW la lb).2]) ∧ Arg w' v (dg (gcdW la lb).1) ∧ Below W.heap.size W w' := by
  have hs := small_gcd ha hb
  have h := Gcd_any va vb la lb W ha hb
  generalize gcdW la lb = r at h hs ⊢
  refine h.mono ?_
  rintro e w' ⟨v, he, hn, hb⟩
  exact ⟨v, he, num_arg hn _ rfl hs, hb⟩
theorem cRoot (va : Value) (la : List Nat) (k : Int) (W : World) (ha : Arg W va la) :
    Calls Tryz.prog 46 #[va, .int .i64 k] W fun e w' => ∃ v, e = .returned (.tuple #[v, .int .i64 (rootW la k).2]) ∧ Arg w' v (dg (rootW la k).1) ∧ Below W.heap.size W w' := by
  have hs := small_root ha k
  have h := Root_any va la k W ha
  generalize rootW la k = r at h hs ⊢
  refine h.mono ?_
  rintro e w' ⟨v, he, hn, hb⟩
  exact ⟨v, he, num_arg hn _ rfl hs, hb⟩
theorem cDiv (va vb : Value) (la lb : List Nat) (W : World) (ha : Arg W va la) (hb : Arg W vb lb) :
    Calls Tryz.prog 40 #[va, vb] W fun e w' => ∃ q r, e = .returned (.tuple #[q, r, .int .i64 (divW la lb).2.2]) ∧ Arg w' q (dg (divW la lb).1) ∧ Arg w' r (dg (divW la lb).2.1) ∧ Below W.heap.size W w' := by
  have hs := small_div ha hb
  have h := DivMod_any va vb la lb W ha hb
  generalize divW la lb = r at h hs ⊢
  refine h.mono ?_
  rintro e w' ⟨q, v, he, hq, hr, hb⟩
  exact ⟨q, v, he, num_arg hq _ rfl hs.1, num_arg hr _ rfl hs.2, hb⟩
theorem rcAdd (va vb : Value) (la lb : List Nat) (W : World) (ha : Arg W va la) (hb : Arg W vb lb) :
    Calls Tryz.prog 35 #[va, vb] W fun e w' => ∃ v, e = .returned (.tuple #[v, .int .i64 (addW la lb).2]) ∧ Arg w' v (dg (addW la lb).1) ∧ Below W.heap.size W w' := by
  have hs := small_add la lb
  have h := rAdd_any va vb la lb W ha hb
  generalize addW la lb = r at h hs ⊢
  refine h.mono ?_
  rintro e w' ⟨v, he, hn, hb⟩
  exact ⟨v, he, num_arg hn _ rfl hs, hb⟩
theorem rcSub (va vb : Value) (la lb : List Nat) (W : World) (ha : Arg W va la) (hb : Arg W vb lb) :
    Calls Tryz.prog 37 #[va, vb] W fun e w' => ∃ v, e = .returned (.tuple #[v, .int .i64 (subW la lb).2]) ∧ Arg w' v (dg (subW la lb).1) ∧ Below W.heap.size W w' := by
  have hs := small_sub ha lb
  have h := rSub_any va vb la lb W ha hb
  generalize subW la lb = r at h hs ⊢
  refine h.mono ?_
  rintro e w' ⟨v, he, hn, hb⟩
  exact ⟨v, he, num_arg hn _ rfl hs, hb⟩
theorem rcMul (va vb : Value) (la lb : List Nat) (W : World) (ha : Arg W va la) (hb : Arg W vb lb) :
    Calls Tryz.prog 39 #[va, vb] W fun e w' => ∃ v, e = .returned (.tuple #[v, .int .i64 (mulW la lb).2]) ∧ Arg w' v (dg (mulW la lb).1) ∧ Below W.heap.size W w' := by
  have hs := small_mul la lb
  have h := rMul_any va vb la lb W ha hb
  generalize mulW la lb = r at h hs ⊢
  refine h.mono ?_
  rintro e w' ⟨v, he, hn, hb⟩
  exact ⟨v, he, num_arg hn _ rfl hs, hb⟩
theorem rcGcd (va vb : Value) (la lb : List Nat) (W : World) (ha : Arg W va la) (hb : Arg W vb lb) :
    Calls Tryz.prog 43 #[va, vb] W fun e w' => ∃ v, e = .returned (.tuple #[v, .int .i64 (gcdW la lb).2]) ∧ Arg w' v (dg (gcdW la lb).1) ∧ Below W.heap.size W w' := by
  have hs := small_gcd ha hb
  have h := rGcd_any va vb la lb W ha hb
  generalize gcdW la lb = r at h hs ⊢
  refine h.mono ?_
  rintro e w' ⟨v, he, hn, hb⟩
  exact ⟨v, he, num_arg hn _ rfl hs, hb⟩
theorem rcRoot (va : Value) (la : List Nat) (k : Int) (W : World) (ha : Arg W va la) :
    Calls Tryz.prog 47 #[va, .int .i64 k] W fun e w' => ∃ v, e = .returned (.tuple #[v, .int .i64 (rootW la k).2]) ∧ Arg w' v (dg (rootW la k).1) ∧ Below W.heap.size W w' := by
  have hs := small_root ha k
  have h := rRoot_any va la k W ha
  generalize rootW la k = r at h hs ⊢
  refine h.mono ?_
  rintro e w' ⟨v, he, hn, hb⟩
  exact ⟨v, he, num_arg hn _ rfl hs, hb⟩
theorem rcDiv (va vb : Value) (la lb : List Nat) (W : World) (ha : Arg W va la) (hb : Arg W vb lb) :
    Calls Tryz.prog 41 #[va, vb] W fun e w' => ∃ q r, e = .returned (.tuple #[q, r, .int .i64 (divW la lb).2.2]) ∧ Arg w' q (dg (divW la lb).1) ∧ Arg w' r (dg (divW la lb).2.1) ∧ Below W.heap.size W w' := by
  have hs := small_div ha hb
  have h := rDivMod_any va vb la lb W ha hb
  generalize divW la lb = r at h hs ⊢
  refine h.mono ?_
  rintro e w' ⟨q, v, he, hq, hr, hb⟩
  exact ⟨q, v, he, num_arg hq _ rfl hs.1, num_arg hr _ rfl hs.2, hb⟩
theorem cPow (va : Value) (la : List Nat) (k : Int) (W : World) (ha : Arg W va la) :
    Calls Tryz.prog 44 #[va, .int .i64 k] W fun e w' => ∃ v, e = .returned (.tuple #[v, .int .i64 (powW la k).2]) ∧ Arg w' v (dg (powW la k).1) ∧ Below W.heap.size W w' := by
  have hs := small_pow la k
  have h := Pow_any va la k W ha
  generalize powW la k = r at h hs ⊢
  refine h.mono ?_
  rintro e w' ⟨v, he, hn, hb⟩
  exact ⟨v, he, num_arg hn _ rfl hs, hb⟩
theorem cShift (va : Value) (la : List Nat) (n : Int) (W : World) (ha : Arg W va la) :
    Calls Tryz.prog 32 #[va, .int .i64 n] W fun e w' => ∃ v, e = .returned (.tuple #[v, .int .i64 (shiftW la n).2]) ∧ Arg w' v (dg (shiftW la n).1) ∧ Below W.heap.size W w' := by
  have hs := small_shift ha n
  have h := Shift_any va la n W ha
  generalize shiftW la n = r at h hs ⊢
  refine h.mono ?_
  rintro e w' ⟨v, he, hn, hb⟩
  exact ⟨v, he, num_arg hn _ rfl hs, hb⟩
theorem rcPow (va : Value) (la : List Nat) (k : Int) (W : World) (ha : Arg W va la) :
    Calls Tryz.prog 45 #[va, .int .i64 k] W fun e w' => ∃ v, e = .returned (.tuple #[v, .int .i64 (powW la k).2]) ∧ Arg w' v (dg (powW la k).1) ∧ Below W.heap.size W w' := by
  have hs := small_pow la k
  have h := rPow_any va la k W ha
  rw [npow_eq] at h
  generalize powW la k = r at h hs ⊢
  refine h.mono ?_
  rintro e w' ⟨v, he, hn, hb⟩
  exact ⟨v, he, num_arg hn _ rfl hs, hb⟩
theorem rcShift (va : Value) (la : List Nat) (n : Int) (W : World) (ha : Arg W va la) :
    Calls Tryz.prog 33 #[va, .int .i64 n] W fun e w' => ∃ v, e = .returned (.tuple #[v, .int .i64 (shiftW la n).2]) ∧ Arg w' v (dg (shiftW la n).1) ∧ Below W.heap.size W w' := by
  have hs := small_shift ha n
  have h := rShift_any va la n W ha
  rw [rshift_eq ha n] at h
  generalize shiftW la n = r at h hs ⊢
  refine h.mono ?_
  rintro e w' ⟨v, he, hn, hb⟩
  exact ⟨v, he, num_arg hn _ rfl hs, hb⟩
end Go.Proofs.YtlababdfdjjjaaaGreatDoor
