import Derived.Test.YtlmcafcebidliaaDoorKCA
namespace Go.Proofs.YtlmcafcebidliaaDoor
open Go.RowKit

theorem nz_A : ∀ l : List (Nat × Int), wA (nz l) ≤ wA l ∧ nA (nz l) ≤ nA l
  | [] => ⟨Nat.le_refl _, Nat.le_refl _⟩
  | x :: r => by
    obtain ⟨h1, h2⟩ := nz_A r
    by_cases h : x.2 = 0
    · have e : nz (x :: r) = nz r := by unfold nz; rw [List.filter_cons, if_neg (by simp [h])]
      rw [e]
      exact ⟨Nat.le_trans h1 (Nat.le_add_left _ _), Nat.le_trans h2 (Nat.le_add_left _ _)⟩
    · have e : nz (x :: r) = x :: nz r := by unfold nz; rw [List.filter_cons, if_pos (by simp [h])]
      rw [e]
      exact ⟨Nat.add_le_add_left h1 _, Nat.add_le_add_left h2 _⟩
theorem nz_sign {v : V6} (h : ∀ n ∈ v.l, n.natAbs ≤ 200000000) : SignOk (nz v.zl) 30 := by
  have h1 := sums6 h
  obtain ⟨h2, h3⟩ := nz_A v.zl
  have hk : (64 : Nat) * 2 ^ 30 - 2 = 68719476734 := by decide
  have hl : (nz v.zl).length ≤ 6 := by
    refine Nat.le_trans (nz_len _) ?_
    unfold V6.zl V6.l ps6
    simp
  exact SignOk.of (fun x hx => by have := (zl_mem hx).1; omega) (by omega) (by omega) (by omega) (by omega) (by omega)
theorem tpZ_bd2 {x y xd yd s : Int} (hx : -100000 ≤ x ∧ x ≤ 100000) (hy : -100000 ≤ y ∧ y ≤ 100000) (hxd : 1 ≤ xd ∧ xd ≤ 1000) (hyd : 1 ≤ yd ∧ yd ≤ 1000) (hs : -1 ≤ s ∧ s ≤ 1) : (tpZ x y xd yd s).natAbs ≤ 200000000 := by
  have p1 := mul_bd (A := 100000) (B := 1000) hx (show -1000 ≤ yd ∧ yd ≤ 1000 by omega) (by omega)
  have p2 := mul_bd (A := 1) (B := 100000) hs hy (by omega)
  have p3 := mul_bd (a := s * y) (A := 100000) (B := 1000) (by omega) (show -1000 ≤ xd ∧ xd ≤ 1000 by omega) (by omega)
  unfold tpZ
  omega
def cmpW (x y : Rt) : Int × Int := if x.err = 0 then (if y.err = 0 then (Sg (timesW x y (-1)).1, 0) else (0, y.err)) else (0, x.err)
def CmPost (w : World) (r : Int × Int) (e : Ending) (w' : World) : Prop := e = .returned (.tuple #[.int .i64 r.1, .int .i64 r.2]) ∧ Below w.heap.size w w'
end Go.Proofs.YtlmcafcebidliaaDoor
