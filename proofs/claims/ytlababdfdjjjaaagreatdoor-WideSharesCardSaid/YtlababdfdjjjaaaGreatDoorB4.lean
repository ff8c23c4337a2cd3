import Derived.Test.YtlababdfdjjjaaaGreatDoorB3
import Derived.Test.YtlababdfdjjjaaaGreatDoorX5
namespace Go.Proofs.YtlababdfdjjjaaaGreatDoor
open Go.RowKit

/-! The reference's QPow returns what the program's does, for few limbs and small exponents, or great ones. -/
theorem pow_fits {x k : Nat} (hx : (dg x).length ≤ 3) (hk : k ≤ 12) : (dg (x ^ k)).length ≤ 512 := by
  have h1 : x < LB ^ 3 := dg_le.1 hx
  rcases Nat.eq_zero_or_pos k with h | h
  · subst h; rw [Nat.pow_zero, dg_one]; simp
  · have h2 : x ^ k < (LB ^ 3) ^ k := Nat.pow_lt_pow_left h1 (by omega)
    rw [← Nat.pow_mul] at h2
    exact Nat.le_trans (dg_le.2 h2) (by omega)
theorem low_one (s : Bool) {m n : Nat} (hg : Nat.gcd m n = 1) (h1 : (dg m).length ≤ 512) (h2 : (dg n).length ≤ 512) : lowW s m n = (s && decide (m ≠ 0), m, n, 0) := by
  unfold lowW
  rw [hg, Nat.div_one, Nat.div_one, if_neg (by omega)]
theorem gcd_pow {m n : Nat} (h : Nat.gcd m n = 1) (k : Nat) : Nat.gcd (m ^ k) (n ^ k) = 1 := Nat.Coprime.pow k k h
theorem rQPow_law (f : Fr) (vn vd : Value) (k : Int) (w : World) (h1 : FrV w f vn vd) (hlen : (f.num.length ≤ 3 ∧ f.den.length ≤ 3) ∨ 512 < f.num.length ∨ 512 < f.den.length) (hk : (-12 ≤ k ∧ k ≤ 12) ∨ k < -2000 ∨ 2000 < k) :
    Calls Tryz.prog 67 #[.agg #[.bool f.neg, vn, vd], .int .i64 k] w (ResW w (qpowW f k)) := by
  by_cases hx : examQW [f] = 0
  · have hp := examQW_ok hx f (by simp)
    obtain ⟨he, hd0, hn0, hg⟩ := properW_ok hp
    obtain ⟨a1, a2, a3⟩ := h1.1.num he (by simp)
    obtain ⟨b1, b2, b3⟩ := h1.2.num he (by simp)
    have l1 : f.num.length ≤ 3 ∧ f.den.length ≤ 3 := by
      rw [a3] at a2
      rw [b3] at b2
      omega
    have hz := lenz a3
    rcases hk with hk | hk | hk
    · by_cases hneg : k < 0
      · by_cases h0 : val f.num = 0
        · have e : qpowW f k = (false, 0, 0, 4) := by unfold qpowW powPart; rw [if_pos hx, if_neg (by omega), if_pos hneg, if_pos h0]
          rw [e]
          exact rQPow_none f vn vd k w h1 hx (by omega) hneg (hz.2 h0)
        · obtain ⟨j, rfl⟩ : ∃ j : Nat, k = -(j : Int) := ⟨(-k).toNat, by omega⟩
          have f1 := pow_fits (x := val f.den) (k := j) (by rw [b3]; exact l1.2) (by omega)
          have f2 := pow_fits (x := val f.num) (k := j) (by rw [a3]; exact l1.1) (by omega)
          have h := rQPow_neg f vn vd j w h1 hx (by omega) (by omega) h0 f1 f2
          rw [low_one _ (gcd_pow (by rw [Nat.gcd_comm]; exact hg) j) f1 f2] at h
          have e : qpowW f (-(j : Int)) = ((f.neg && decide (j % 2 = 1)) && decide (val f.den ^ j ≠ 0), val f.den ^ j, val f.num ^ j, 0) := by
            unfold qpowW powPart
            rw [if_pos hx, if_neg (by omega), if_pos hneg, show ((- -(j : Int)).toNat) = j by omega, if_neg h0, if_neg (by omega), decide_eq_true (show val f.den ^ j ≠ 0 from Nat.pos_iff_ne_zero.1 (Nat.pow_pos (Nat.pos_of_ne_zero hd0))), Bool.and_true]
          rw [e]
          exact h.mono fun _ _ ⟨A, l, c, B, m, d, h1, h2, h3, h4⟩ => ⟨_, _, h1, h2, h3, h4⟩
      · obtain ⟨j, rfl⟩ : ∃ j : Nat, k = (j : Int) := ⟨k.toNat, by omega⟩
        have f1 := pow_fits (x := val f.num) (k := j) (by rw [a3]; exact l1.1) (by omega)
        have f2 := pow_fits (x := val f.den) (k := j) (by rw [b3]; exact l1.2) (by omega)
        have h := rQPow_any f vn vd j w h1 hx (by omega) f1 f2
        rw [low_one _ (gcd_pow hg j) f1 f2] at h
        have es : ((f.neg && decide (j % 2 = 1)) && decide (val f.num ^ j ≠ 0)) = (f.neg && decide (j % 2 = 1)) := by
          cases hs : f.neg
          · rfl
          · have := hn0 hs
            rw [decide_eq_true (show val f.num ^ j ≠ 0 from Nat.pos_iff_ne_zero.1 (Nat.pow_pos (Nat.pos_of_ne_zero this))), Bool.and_true]
        rw [es] at h
        have e : qpowW f (j : Int) = (f.neg && decide (j % 2 = 1), val f.num ^ j, val f.den ^ j, 0) := by
          unfold qpowW powPart
          rw [if_pos hx, if_neg (by omega), if_neg hneg, Int.toNat_natCast, if_neg hd0, if_neg (by omega)]
        rw [e]
        exact h.mono fun _ _ ⟨A, l, c, B, m, d, h1, h2, h3, h4⟩ => ⟨_, _, h1, h2, h3, h4⟩
    · have e : qpowW f k = (false, 0, 0, 2) := by unfold qpowW; rw [if_pos hx, if_pos (by omega)]
      rw [e]; exact rQPow_lo f vn vd k w h1 hx hk
    · have e : qpowW f k = (false, 0, 0, 2) := by unfold qpowW; rw [if_pos hx, if_pos (by omega)]
      rw [e]; exact rQPow_hi f vn vd k w h1 hx hk
  · have e : qpowW f k = (false, 0, 0, examQW [f]) := by unfold qpowW; rw [if_neg hx]
    rw [e]; exact rQPow_bad f vn vd k w h1 hx
/-- What much says of a fraction; if it is not much, its numbers are. -/
def MuchOk3 (w : World) (A B : Option Addr) (n ca m cb : Nat) (ln ld : List Nat) : Prop := ∃ b : Bool, (∀ (s : Bool) (W' : World), Calls Tryz.prog 48 #[.agg #[.bool s, .slice A n ca, .slice B m cb]] W' fun e w' => e = .returned (.bool b) ∧ Below W'.heap.size W' w') ∧ (b = false → Arg w (.slice A n ca) ln ∧ Arg w (.slice B m cb) ld ∧ ((n ≤ 3 ∧ m ≤ 3) ∨ 512 < n ∨ 512 < m))
set_option maxRecDepth 100000 in
set_option maxHeartbeats 4000000 in
theorem much_ok3 (A B : Option Addr) (n ca m cb : Nat) (ln ld : List Nat) (w : World) (hm1 : n ≤ maxLen) (hm2 : m ≤ maxLen) (h1 : n ≤ 100000000 → Arg w (.slice A n ca) ln) (h2 : m ≤ 100000000 → Arg w (.slice B m cb) ld) : MuchOk3 w A B n ca m cb ln ld := by
  obtain ⟨N, hN⟩ : ∃ N : Nat, max (n : Int) (m : Int) = (N : Int) := ⟨max n m, by omega⟩
  refine ⟨decide (3 < N ∧ N ≤ 512 ∨ 520 < N), fun s W' => ?_, fun hb => ?_⟩
  · have p : N ≤ 3 ∨ (3 < N ∧ N ≤ 512) ∨ (512 < N ∧ N ≤ 520) ∨ 520 < N := by omega
    have c := (QB.new W' s (.slice A n ca) (.slice B m cb))
    have c1 := c.c1
    have c2 := c.c2
    have hbl := al_below W' (.cells #[.bool s, .slice A n ca, .slice B m cb] 48)
    have HBL := Lib.hid hbl
    clear h1 h2 hbl c hm1 hm2
    rcases p with p | p | p | p
    · rw [show decide (3 < N ∧ N ≤ 512 ∨ 520 < N) = false from decide_eq_false (by omega)]
      have t1 : ¬ (3 : Int) < (N : Int) := by omega
      have t2 : (N : Int) ≤ 512 := by omega
      have t3 : ¬ (520 : Int) < (N : Int) := by omega
      go_enter Tryz.func48, Tryz.ntmps48
      go_wp2_with fail
      go_ret
      exact ⟨rfl, HBL.out⟩
    · rw [show decide (3 < N ∧ N ≤ 512 ∨ 520 < N) = true from decide_eq_true (by omega)]
      have t1 : (3 : Int) < (N : Int) := by omega
      have t2 : (N : Int) ≤ 512 := by omega
      have t3 : ¬ (520 : Int) < (N : Int) := by omega
      go_enter Tryz.func48, Tryz.ntmps48
      go_wp2_with fail
      go_ret
      exact ⟨rfl, HBL.out⟩
    · rw [show decide (3 < N ∧ N ≤ 512 ∨ 520 < N) = false from decide_eq_false (by omega)]
      have t1 : (3 : Int) < (N : Int) := by omega
      have t2 : ¬ (N : Int) ≤ 512 := by omega
      have t3 : ¬ (520 : Int) < (N : Int) := by omega
      go_enter Tryz.func48, Tryz.ntmps48
      go_wp2_with fail
      go_ret
      exact ⟨rfl, HBL.out⟩
    · rw [show decide (3 < N ∧ N ≤ 512 ∨ 520 < N) = true from decide_eq_true (by omega)]
      have t1 : (3 : Int) < (N : Int) := by omega
      have t2 : ¬ (N : Int) ≤ 512 := by omega
      have t3 : (520 : Int) < (N : Int) := by omega
      go_enter Tryz.func48, Tryz.ntmps48
      go_wp2_with fail
      go_ret
      exact ⟨rfl, HBL.out⟩
  · have hb' := of_decide_eq_false hb
    exact ⟨h1 (by omega), h2 (by omega), by omega⟩
end Go.Proofs.YtlababdfdjjjaaaGreatDoor
