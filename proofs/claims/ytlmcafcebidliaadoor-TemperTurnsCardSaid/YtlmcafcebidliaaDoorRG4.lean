import Derived.Test.YtlmcafcebidliaaDoorRGA
import Derived.Test.YtlmcafcebidliaaDoorRO1
namespace Go.Proofs.YtlmcafcebidliaaDoor

theorem sts6_of {n n1 n2 n3 n4 n5 n6 a0 a1 a2 a3 a4 a5 : Nat} (h0 : n = n1 * 2 ^ a0) (r0 : n1 % 2 ≠ 0) (h1 : n1 = n2 * 3 ^ a1) (r1 : n2 % 3 ≠ 0) (h2 : n2 = n3 * 5 ^ a2) (r2 : n3 % 5 ≠ 0) (h3 : n3 = n4 * 7 ^ a3) (r3 : n4 % 7 ≠ 0) (h4 : n4 = n5 * 11 ^ a4) (r4 : n5 % 11 ≠ 0) (h5 : n5 = n6 * 13 ^ a5) (r5 : n6 % 13 ≠ 0) :
    sts ps6 n = (n6, [a0, a1, a2, a3, a4, a5]) := by
  have e0 := st_unique (p := 2) (by omega) r0 h0
  have e1 := st_unique (p := 3) (by omega) r1 h1
  have e2 := st_unique (p := 5) (by omega) r2 h2
  have e3 := st_unique (p := 7) (by omega) r3 h3
  have e4 := st_unique (p := 11) (by omega) r4 h4
  have e5 := st_unique (p := 13) (by omega) r5 h5
  unfold ps6
  simp only [sts, e0, e1, e2, e3, e4, e5]
theorem cents_val {v : V6} {s d m M : Int} {b : Bool} {er : Int} {B : Nat} (hd : 0 < d) (hs : 0 ≤ s) (hB : ∀ n ∈ v.l, n.natAbs ≤ B) (hf : 24 * (B : Int) * s < 1000000000000 * d)
    (hw : (er = 0 ∧ FlIs v s d m ∧ b = (Fl v s d m == 0) ∧ -1000000000000 ≤ m ∧ m ≤ 1000000000000) ∨ (er = 7 ∧ m = 0 ∧ b = false ∧ (Fl v s d (-1000000000000) < 0 ∨ 0 ≤ Fl v s d 1000000000001))) (hM : FlIs v s d M) : er = 0 ∧ m = M ∧ b = (Fl v s d M == 0) := by
  rcases hw with ⟨h1, h2, h3, -⟩ | ⟨-, -, -, h3⟩
  · have := h2.unique hd hM
    subst this
    exact ⟨h1, rfl, h3⟩
  · exfalso
    have e : (1000000000000 : Int) * d < 1000000000001 * d := Int.mul_lt_mul_of_pos_right (by omega) hd
    have f1 := Fl_far hB hs hf
    have f2 := Fl_far hB hs (Int.lt_trans hf e)
    rcases h3 with h3 | h3
    · have := f1.1; omega
    · have := f2.2; omega
def fifthV : V6 := ⟨-1, 1, 0, 0, 0, 0⟩
theorem fifth_Fl : 0 < Fl fifthV 1200000 1 701955 := by
  unfold Fl Sg
  rw [sgn_up]
  · omega
  · decide +kernel
theorem fifth_is : FlIs fifthV 1200000 1 701955 := ⟨by have := fifth_Fl; omega, by
  unfold Fl Sg
  rw [sgn_lt]
  decide +kernel⟩
end Go.Proofs.YtlmcafcebidliaaDoor
