import Derived.Test.YtlmcafcebidliaaDoorKC3
import Derived.Test.YtlmcafcebidliaaDoorRO1
namespace Go.Proofs.YtlmcafcebidliaaDoor
open Go.RowKit

theorem st_le {p n : Nat} (hp : 2 ≤ p) (hn : n ≠ 0) : (st p n).2 + (st p n).1 ≤ n := by
  induction n using Nat.strongRecOn with
  | _ n ih =>
    by_cases h : n % p = 0
    · have hlt : n / p < n := Nat.div_lt_self (by omega) (by omega)
      have hd : n / p ≠ 0 := by
        intro h0
        have := Nat.div_add_mod n p
        rw [h0, h] at this; simp at this; omega
      have := ih (n / p) hlt hd
      rw [st_hit hp hn h]
      show (st p (n / p)).2 + 1 + (st p (n / p)).1 ≤ n
      omega
    · rw [st_miss h]; show 0 + n ≤ n; omega
def ToRel (n p : Nat) (nv tv : Value) : Prop :=
  ∃ m t : Nat, nv = .int .i64 (m : Int) ∧ tv = .int .i64 (t : Int) ∧ 1 ≤ m ∧ t + m ≤ n ∧ st p n = ((st p m).1, (st p m).2 + t)
set_option maxRecDepth 100000 in
set_option maxHeartbeats 400000 in
theorem takeOut_any (n p : Nat) (w : World) (hn : 1 ≤ n) (hn2 : n ≤ 1000000000000) (hp : 2 ≤ p) (hp2 : p ≤ 13) :
    Calls Tryd.prog 82 #[.int .i64 (n : Int), .int .i64 (p : Int)] w fun e w' => e = .returned (.tuple #[.int .i64 (((st p n).1 : Nat) : Int), .int .i64 (((st p n).2 : Nat) : Int)]) ∧ w = w' := by
  go_enter Tryd.func82, Tryd.ntmps82
  go_wp2
  go_loop [0, 5] (fun nv tv => ToRel n p nv tv) (fun nv _ => (intOf nv).toNat)
  case atStart => exact ⟨n, 0, rfl, rfl, hn, by omega, rfl⟩
  case round =>
    obtain ⟨m, t, rfl, rfl, hm1, hm2, hst⟩ := hrel
    have HST := Lib.hid hst
    clear hst
    have hp0 : ¬ p = 0 := by omega
    have hpI : ¬ (p : Int) = 0 := by omega
    have hpB : ((p : Int) == 0) = false := beq_false_of_ne hpI
    by_cases h : m % p = 0
    · have hr : (m : Int) % (p : Int) = 0 := by rw [← Int.natCast_emod, h]; rfl
      obtain ⟨q, hq⟩ : ∃ q, q = m / p := ⟨_, rfl⟩
      have hqI : (m : Int) / (p : Int) = (q : Int) := by rw [hq]; exact (Int.natCast_ediv m p).symm
      have hlt : q < m := by rw [hq]; exact Nat.div_lt_self (by omega) (by omega)
      have hq0 : q ≠ 0 := by
        intro h0
        have := Nat.div_add_mod m p
        rw [← hq, h0, h] at this; simp at this; omega
      have hs2 : st p m = ((st p q).1, (st p q).2 + 1) := by rw [hq]; exact st_hit hp (by omega) h
      have HS2 := Lib.hid hs2
      clear hs2 hq h
      go_wp2
      refine ⟨⟨q, t + 1, rfl, by go_num, by omega, by omega, ?_⟩, by simp [intOf]; omega⟩
      rw [HST.out, HS2.out]
      show ((st p q).1, (st p q).2 + 1 + t) = ((st p q).1, (st p q).2 + (t + 1))
      rw [Nat.add_assoc, Nat.add_comm 1 t]
    · obtain ⟨r, hr⟩ : ∃ r : Nat, r = m % p := ⟨_, rfl⟩
      have hrI : (m : Int) % (p : Int) = (r : Int) := by rw [hr]; exact (Int.natCast_emod m p).symm
      have hr0 : ¬ (r : Int) = 0 := by rw [hr]; omega
      have hs2 : st p m = (m, 0) := st_miss h
      have HS2 := Lib.hid hs2
      clear hs2 hr h
      go_wp2
      go_ret2
      refine ⟨?_, rfl⟩
      rw [HST.out, HS2.out]
      simp
end Go.Proofs.YtlmcafcebidliaaDoor
