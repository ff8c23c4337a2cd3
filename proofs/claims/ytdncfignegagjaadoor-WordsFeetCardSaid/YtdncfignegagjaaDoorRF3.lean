import Derived.Test.YtdncfignegagjaaDoorRF3a
namespace Go.Proofs.YtdncfignegagjaaDoor
open Go.RowKit

theorem feetW_ok {n d : Int} (h : (feetW n d).2 = 0) : footB n d = true := by
  cases hf : footB n d
  · rw [feetW_no hf] at h; simp at h
  · rfl
theorem back {n d : Int} {l : List UInt8} (h : feetW n d = (l, 0)) : parseFeetW l = ((n, d), 0) ∧ l.length ≤ 10 := by
  have hf := feetW_ok (n := n) (d := d) (by rw [h])
  have hb := footB_bounds hf
  obtain ⟨a, rfl⟩ : ∃ a : Nat, n = a := ⟨n.toNat, by omega⟩
  obtain ⟨b, rfl⟩ : ∃ b : Nat, d = b := ⟨d.toNat, by omega⟩
  have h1 := back_at b a (by omega) (by omega) (by omega)
  unfold backB at h1
  rw [if_pos hf, h] at h1
  simp only [Bool.and_eq_true, decide_eq_true_eq] at h1
  exact h1
theorem parse_feet {l : List UInt8} {n d : Int} (h : parseFeetW l = ((n, d), 0)) : feetW n d = (l, 0) := by
  unfold parseFeetW at h
  split at h
  · simp at h
  · split at h
    · simp at h
    · rename_i h1 h2
      simp only [ne_eq, not_or, Decidable.not_not] at h2
      simp only [Prod.mk.injEq, and_true] at h
      rw [h] at h2
      exact Prod.ext h2.2 h2.1
theorem parse_feet_cases (l : List UInt8) : parseFeetW l = ((0, 0), 6) ∨ ∃ n d, parseFeetW l = ((n, d), 0) := by
  unfold parseFeetW
  split
  · exact .inl rfl
  · split
    · exact .inl rfl
    · exact .inr ⟨_, _, rfl⟩
theorem parse_long {l : List UInt8} (h : 10 < l.length) : parseFeetW l = ((0, 0), 6) := by
  rcases parse_feet_cases l with h1 | ⟨n, d, h1⟩
  · exact h1
  · have := (back (parse_feet h1)).2; omega

def UnmetF (l : List UInt8) (d n : Nat) : Prop :=
  ∀ d' n' : Nat, 1 ≤ d' → 1 ≤ n' → n' ≤ 64 * d' → (d' < d ∨ (d' = d ∧ n' < n)) → feetW (n' : Int) (d' : Int) ≠ (l, 0)
theorem unmetF_0 (l : List UInt8) : UnmetF l 1 1 := fun d' n' _ _ _ h => by omega
theorem unmetF_n {l : List UInt8} {d n : Nat} (h : UnmetF l d n) (h1 : feetW (n : Int) (d : Int) ≠ (l, 0)) : UnmetF l d (n + 1) := fun d' n' a1 a2 a3 hl => by
  by_cases e : d' = d ∧ n' = n
  · obtain ⟨rfl, rfl⟩ := e; exact h1
  · exact h d' n' a1 a2 a3 (by omega)
theorem unmetF_d {l : List UInt8} {d n : Nat} (h : UnmetF l d n) (hn : 64 * d < n) : UnmetF l (d + 1) 1 := fun d' n' a1 a2 a3 hl => by
  refine h d' n' a1 a2 a3 ?_
  by_cases e : d' = d
  · subst e; right; omega
  · omega
theorem unmetF_end {l : List UInt8} (h : UnmetF l 16 1) : parseFeetW l = ((0, 0), 6) := by
  rcases parse_feet_cases l with h1 | ⟨n, d, h1⟩
  · exact h1
  · exfalso
    have h2 := parse_feet h1
    have hb := footB_bounds (feetW_ok (n := n) (d := d) (by rw [h2]))
    obtain ⟨a, rfl⟩ : ∃ a : Nat, n = a := ⟨n.toNat, by omega⟩
    obtain ⟨b, rfl⟩ : ∃ b : Nat, d = b := ⟨d.toNat, by omega⟩
    exact h b a (by omega) (by omega) (by omega) (.inl (by omega)) h2
end Go.Proofs.YtdncfignegagjaaDoor
