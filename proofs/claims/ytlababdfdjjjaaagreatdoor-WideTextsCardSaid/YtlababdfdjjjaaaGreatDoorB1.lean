import Derived.Test.YtlababdfdjjjaaaGreatDoorB0
namespace Go.Proofs.YtlababdfdjjjaaaGreatDoor
open Go.RowKit

/-! The functions on right numbers. -/
theorem exam_dg2 {m n : Nat} (h1 : (dg m).length ≤ 512) (h2 : (dg n).length ≤ 512) : examW [dg m, dg n] = 0 := exam_nil (by
  intro l hl
  simp only [List.mem_cons, List.not_mem_nil, or_false] at hl
  rcases hl with rfl | rfl
  · exact ⟨h1, (right_dg m).2⟩
  · exact ⟨h2, (right_dg n).2⟩)
theorem exam_dg1 {m : Nat} (h1 : (dg m).length ≤ 512) : examW [dg m] = 0 := exam_nil (by
  intro l hl
  simp only [List.mem_cons, List.not_mem_nil, or_false] at hl
  subst hl
  exact ⟨h1, (right_dg m).2⟩)
theorem fit_ok {n : Nat} (h : (dg n).length ≤ 512) : fitW n = (n, 0) := by unfold fitW; rw [if_neg (by omega), if_neg (by omega)]
theorem nAdd {va vb : Value} {m n : Nat} {W : World} (ha : Arg W va (dg m)) (hb : Arg W vb (dg n)) (h1 : (dg m).length ≤ 512) (h2 : (dg n).length ≤ 512) (h3 : (dg (m + n)).length ≤ 512) :
    Calls Tryz.prog 34 #[va, vb] W fun e w' => ∃ v, e = .returned (.tuple #[v, .int .i64 0]) ∧ Arg w' v (dg (m + n)) ∧ Below W.heap.size W w' := by
  have h := cAdd va vb (dg m) (dg n) W ha hb
  have e : addW (dg m) (dg n) = (m + n, 0) := by unfold addW; rw [if_pos (exam_dg2 h1 h2), val_dg, val_dg, fit_ok h3]
  rw [e] at h
  exact h
theorem nMul {va vb : Value} {m n : Nat} {W : World} (ha : Arg W va (dg m)) (hb : Arg W vb (dg n)) (h1 : (dg m).length ≤ 512) (h2 : (dg n).length ≤ 512) (h3 : (dg (m * n)).length ≤ 512) :
    Calls Tryz.prog 38 #[va, vb] W fun e w' => ∃ v, e = .returned (.tuple #[v, .int .i64 0]) ∧ Arg w' v (dg (m * n)) ∧ Below W.heap.size W w' := by
  have h := cMul va vb (dg m) (dg n) W ha hb
  have e : mulW (dg m) (dg n) = (m * n, 0) := by unfold mulW; rw [if_pos (exam_dg2 h1 h2), val_dg, val_dg, fit_ok h3]
  rw [e] at h
  exact h
theorem nSub {va vb : Value} {m n : Nat} {W : World} (ha : Arg W va (dg m)) (hb : Arg W vb (dg n)) (h1 : (dg m).length ≤ 512) (h2 : (dg n).length ≤ 512) (h3 : n ≤ m) :
    Calls Tryz.prog 36 #[va, vb] W fun e w' => ∃ v, e = .returned (.tuple #[v, .int .i64 0]) ∧ Arg w' v (dg (m - n)) ∧ Below W.heap.size W w' := by
  have h := cSub va vb (dg m) (dg n) W ha hb
  have e : subW (dg m) (dg n) = (m - n, 0) := by unfold subW; rw [if_pos (exam_dg2 h1 h2), val_dg, val_dg, if_neg (by omega)]
  rw [e] at h
  exact h
theorem nCmp {va vb : Value} {m n : Nat} {W : World} (ha : Arg W va (dg m)) (hb : Arg W vb (dg n)) (h1 : (dg m).length ≤ 512) (h2 : (dg n).length ≤ 512) :
    Calls Tryz.prog 28 #[va, vb] W fun e w' => e = .returned (.tuple #[.int .i64 (cmpI m n), .int .i64 0]) ∧ Below W.heap.size W w' := by
  have h := Cmp_any va vb (dg m) (dg n) W ha hb
  have e : cmpW (dg m) (dg n) = (cmpI m n, 0) := by unfold cmpW; rw [if_pos (exam_dg2 h1 h2), val_dg, val_dg]
  rw [e] at h
  exact h
theorem nDiv {va vb : Value} {m n : Nat} {W : World} (ha : Arg W va (dg m)) (hb : Arg W vb (dg n)) (h1 : (dg m).length ≤ 512) (h2 : (dg n).length ≤ 512) (h3 : n ≠ 0) :
    Calls Tryz.prog 40 #[va, vb] W fun e w' => ∃ q r, e = .returned (.tuple #[q, r, .int .i64 0]) ∧ Arg w' q (dg (m / n)) ∧ Arg w' r (dg (m % n)) ∧ Below W.heap.size W w' := by
  have h := cDiv va vb (dg m) (dg n) W ha hb
  have e : divW (dg m) (dg n) = (m / n, m % n, 0) := by unfold divW; rw [if_pos (exam_dg2 h1 h2), val_dg, val_dg, if_neg h3]
  rw [e] at h
  exact h
theorem nDiv0 {va vb : Value} {m : Nat} {W : World} (ha : Arg W va (dg m)) (hb : Arg W vb (dg 0)) (h1 : (dg m).length ≤ 512) :
    Calls Tryz.prog 40 #[va, vb] W fun e w' => ∃ q r, e = .returned (.tuple #[q, r, .int .i64 4]) ∧ Below W.heap.size W w' := by
  have h := cDiv va vb (dg m) (dg 0) W ha hb
  have e : divW (dg m) (dg 0) = (0, 0, 4) := by unfold divW; rw [if_pos (exam_dg2 h1 (by rw [dg_zero]; simp)), val_dg, val_dg, if_pos rfl]
  rw [e] at h
  exact h.mono fun _ _ ⟨q, r, h1, _, _, h2⟩ => ⟨q, r, h1, h2⟩
theorem nPow {va : Value} {m k : Nat} {W : World} (ha : Arg W va (dg m)) (h1 : (dg m).length ≤ 512) (hk : k ≤ 20000) (h3 : (dg (m ^ k)).length ≤ 512) :
    Calls Tryz.prog 44 #[va, .int .i64 (k : Int)] W fun e w' => ∃ v, e = .returned (.tuple #[v, .int .i64 0]) ∧ Arg w' v (dg (m ^ k)) ∧ Below W.heap.size W w' := by
  have h := cPow va (dg m) (k : Int) W ha
  have e : powW (dg m) (k : Int) = (m ^ k, 0) := by unfold powW; rw [if_pos (exam_dg1 h1), val_dg, if_neg (by omega), Int.toNat_natCast, fit_ok h3]
  rw [e] at h
  exact h
theorem nRoot {va : Value} {m k : Nat} {W : World} (ha : Arg W va (dg m)) (h1 : (dg m).length ≤ 512) (hk : 1 ≤ k) (hk2 : k ≤ 64) :
    Calls Tryz.prog 46 #[va, .int .i64 (k : Int)] W fun e w' => ∃ v r, e = .returned (.tuple #[v, .int .i64 0]) ∧ Arg w' v (dg r) ∧ r ^ k ≤ m ∧ m < (r + 1) ^ k ∧ Below W.heap.size W w' := by
  have h := cRoot va (dg m) (k : Int) W ha
  have e : rootW (dg m) (k : Int) = (rootN m k, 0) := by unfold rootW; rw [if_pos (exam_dg1 h1), val_dg, if_neg (by omega), Int.toNat_natCast]
  have hr := rootN_is m (k := k) (by omega)
  rw [e] at h
  exact h.mono fun _ _ ⟨v, h1, h2, h3⟩ => ⟨v, _, h1, h2, hr.1, hr.2, h3⟩
theorem nShift {va : Value} {m k : Nat} {W : World} (ha : Arg W va (dg m)) (h1 : (dg m).length ≤ 512) (hk : k ≤ 20000) (h3 : (dg (m * 2 ^ k)).length ≤ 512) :
    Calls Tryz.prog 32 #[va, .int .i64 (k : Int)] W fun e w' => ∃ v, e = .returned (.tuple #[v, .int .i64 0]) ∧ Arg w' v (dg (m * 2 ^ k)) ∧ Below W.heap.size W w' := by
  have h := cShift va (dg m) (k : Int) W ha
  have e : shiftW (dg m) (k : Int) = (m * 2 ^ k, 0) := by unfold shiftW; rw [if_pos (exam_dg1 h1), val_dg, if_neg (by omega), if_neg (by omega), Int.toNat_natCast, fit_ok h3]
  rw [e] at h
  exact h
theorem nShiftD {va : Value} {m k : Nat} {W : World} (ha : Arg W va (dg m)) (h1 : (dg m).length ≤ 512) (hk : k ≤ 20000) (hk0 : 0 < k) :
    Calls Tryz.prog 32 #[va, .int .i64 (-(k : Int))] W fun e w' => ∃ v, e = .returned (.tuple #[v, .int .i64 0]) ∧ Arg w' v (dg (m / 2 ^ k)) ∧ Below W.heap.size W w' := by
  have h := cShift va (dg m) (-(k : Int)) W ha
  have e : shiftW (dg m) (-(k : Int)) = (m / 2 ^ k, 0) := by unfold shiftW; rw [if_pos (exam_dg1 h1), val_dg, if_neg (by omega), if_pos (by omega), show ((- -(k : Int)).toNat) = k by omega]
  rw [e] at h
  exact h
theorem nGcd {va vb : Value} {m n : Nat} {W : World} (ha : Arg W va (dg m)) (hb : Arg W vb (dg n)) (h1 : (dg m).length ≤ 512) (h2 : (dg n).length ≤ 512) :
    Calls Tryz.prog 42 #[va, vb] W fun e w' => ∃ v, e = .returned (.tuple #[v, .int .i64 0]) ∧ Arg w' v (dg (Nat.gcd m n)) ∧ Below W.heap.size W w' := by
  have h := cGcd va vb (dg m) (dg n) W ha hb
  have e : gcdW (dg m) (dg n) = (Nat.gcd m n, 0) := by unfold gcdW; rw [if_pos (exam_dg2 h1 h2), val_dg, val_dg]
  rw [e] at h
  exact h
theorem nOne (W : World) : Calls Tryz.prog 21 #[.int .u64 1] W fun e w' => ∃ v, e = .returned v ∧ Arg w' v (dg 1) ∧ Below W.heap.size W w' :=
  (of_any 1 (by omega) W).mono fun _ _ ⟨v, he, h1, hb⟩ => ⟨v, he, num_arg h1 _ rfl (by rw [dg_one]; simp), hb⟩
/-- What Valid says of an argument; if it is right, it is a number. -/
def ValOk (w : World) (A : Option Addr) (n cap m : Nat) : Prop := ∃ b : Bool, (∀ W, Below w.heap.size w W → Calls Tryz.prog 19 #[.slice A n cap] W fun e w' => e = .returned (.bool b) ∧ Below W.heap.size W w') ∧ (b = true → Arg w (.slice A n cap) (dg m) ∧ n = (dg m).length ∧ n ≤ 512)
set_option maxRecDepth 100000 in
theorem val_ok (A : Option Addr) (n cap : Nat) (l : List Nat) (w : World) (hl : l.length = n) (hm : n ≤ maxLen) (h : n ≤ 100000000 → Arg w (.slice A n cap) l) : ValOk w A n cap (val l) := by
  by_cases hn : n ≤ 100000000
  · have ha := h hn
    refine ⟨validW l, fun W hW => (rValid_any _ l W (ha.up hW)).mono fun _ _ h => ⟨h.1, h.2.below⟩, fun hv => ?_⟩
    have he : examW [l] = 0 := of_decide_eq_true (by rw [validW_ex]; exact hv)
    obtain ⟨g1, g2, g3⟩ := ha.num he (by simp)
    exact ⟨by rw [g3]; exact ha, by rw [g3, hl], by rw [g3, hl] at g2; exact g2⟩
  · refine ⟨false, fun W _ => ?_, fun h => by cases h⟩
    have t1 : ¬ (n : Int) ≤ 512 := by omega
    clear hm h hn hl
    go_enter Tryz.func19, Tryz.ntmps19
    go_wp2_with fail
    go_ret
    exact ⟨rfl, Below.refl _ _⟩
end Go.Proofs.YtlababdfdjjjaaaGreatDoor
