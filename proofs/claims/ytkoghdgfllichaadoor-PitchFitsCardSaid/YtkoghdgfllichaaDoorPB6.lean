import Derived.Test.YtkoghdgfllichaaDoorPBA
import Derived.Test.YtkoghdgfllichaaDoorTAE
namespace Go.Proofs.YtkoghdgfllichaaDoor.Pc
open Go.RowKit Tp

/-! The values that awake asks for. -/
theorem std0_chk : chkT std0 = 0 := by decide +kernel
theorem std0_lc : lcL std0.ps = 12 := by decide +kernel
theorem std0_vd : Vd std0 12 11 := by
  obtain ⟨D, wn, hD, hv⟩ := chk_vd (T := std0) rfl std0_chk
  rw [std0_lc] at hD
  obtain rfl : D = 12 := hD
  have h1 : (11 : Int) = (wn : Int) := hv.wo
  obtain rfl : wn = 11 := by omega
  exact hv
theorem e_s0 : PS (FF 12 (fN std0 12) 11) 0 = octV 0 := rfl
theorem e_s3 : PS (FF 12 (fN std0 12) 11) 3 = octV 21 := rfl
theorem e_k0 : FlIs (octV 0) 1 12 0 := ⟨by unfold Fl; exact Sg_up _ (by decide), by unfold Fl Sg; rw [sgn_lt]; decide⟩
theorem e_k3 : FlIs (octV 21) 1 12 1 := ⟨by unfold Fl; exact Sg_up _ (by decide), by unfold Fl Sg; rw [sgn_lt]; decide⟩
theorem note_eq {i : Nat} {r : Rt} {v u : V6} {K : Int} (h : NoteIs 12 (fN std0 12) 11 i r) (hv : PS (FF 12 (fN std0 12) 11) i = v) (hK : FlIs v 1 12 K) (hu : v.two (-(K * 12)) = u) : r = lowR u 12 := by
  obtain ⟨k, hk, e⟩ := h
  rw [hv] at hk e
  have := hk.unique (by omega) hK
  subst this
  rw [e, hu]
theorem nr60 {N : List Rt} (hN : NotesL 12 (fN std0 12) 11 12 N) : nr N 60 = ⟨octV (-3), 4⟩ := by
  obtain ⟨x, e1, hx⟩ := hN.at (c := 0) (by omega)
  obtain ⟨y, e2, hy⟩ := hN.at (c := 9) (by omega)
  have h1 := note_eq hx e_s0 e_k0 (u := octV 0) rfl
  have h2 := note_eq hy e_s3 e_k3 (u := octV 9) rfl
  unfold nr
  rw [show 60 % 12 = 0 from rfl, e1, e2, h1, h2]
  exact (by kernel_rfl : noR (lowR (octV 0) 12) (lowR (octV 9) 12) 60 = ⟨octV (-3), 4⟩)
theorem nr69 {N : List Rt} (hN : NotesL 12 (fN std0 12) 11 12 N) : nr N 69 = ⟨octV 0, 1⟩ := by
  obtain ⟨y, e2, hy⟩ := hN.at (c := 9) (by omega)
  have h2 := note_eq hy e_s3 e_k3 (u := octV 9) rfl
  unfold nr
  rw [show 69 % 12 = 9 from rfl, e2, h2]
  exact (by kernel_rfl : noR (lowR (octV 9) 12) (lowR (octV 9) 12) 69 = ⟨octV 0, 1⟩)
theorem span_val {F : Int → Int} {m k c : Int} (aF : ∀ x y, 0 ≤ x → x < y → 0 ≤ F y → 0 < F x) (h : SpanIs F m k) (h0 : 0 ≤ c) (h1 : 0 < F c) (h2 : F (c + 1) < 0) : m = c ∧ k = c + 1 := by
  obtain ⟨f1, f2, f3, f4, f5⟩ := h
  have a1 : c ≤ m := by
    rcases Int.lt_or_le m c with hc | hc
    · rcases Int.lt_or_le (m + 1) c with hc2 | hc2
      · have := aF (m + 1) c (by omega) hc2 (by omega); omega
      · have e : m + 1 = c := by omega
        rw [e] at f4; omega
    · exact hc
  have a2 : m ≤ c := by
    rcases Int.lt_or_le c m with hc | hc
    · rcases Int.lt_or_le (c + 1) m with hc2 | hc2
      · have := aF (c + 1) m (by omega) hc2 f3; omega
      · have e : m = c + 1 := by omega
        rw [e] at f3; omega
    · exact hc
  have e : m = c := by omega
  subst e
  omega
theorem drift_val {m : Int} (h : CtP (fastL 15000 20000) 2 m) : m = 14891 := by
  have k1 : 0 ≤ CtF (fastL 15000 20000) 2 14891 := by decide +kernel
  have k2 : CtF (fastL 15000 20000) 2 14892 < 0 := by decide +kernel
  have an : ∀ a b : Int, a ≤ b → 0 ≤ CtF (fastL 15000 20000) 2 b → 0 ≤ CtF (fastL 15000 20000) 2 a := fun a b hab hb => floor_anti (a := a * 2) (b := b * 2) (by omega) hb
  rcases h with ⟨h1, -⟩ | ⟨h1, h2, h3, h4⟩
  · exfalso
    rcases h1 with h1 | h1
    · have := an (-1000000000000) 14891 (by omega) k1; omega
    · have := an 14892 1000000000001 (by omega) h1; omega
  · have a1 : ¬ m < 14891 := fun hc => by have := an (m + 1) 14891 (by omega) k1; omega
    have a2 : ¬ 14891 < m := fun hc => by have := an 14892 m (by omega) h3; omega
    omega
theorem freq60 {N : List Rt} {m k : Int} (hN : NotesL 12 (fN std0 12) 11 12 N) (h : SpanIs (PwF (fqL 440000 15000 15000 (nr N 60)) (fqD (nr N 60)) 1) m k) : m = 261625 ∧ k = 261626 := by
  rw [nr60 hN] at h
  exact span_val (fun x y h1 h2 h3 => PwF_anti (fun x hx => by revert x; decide +kernel) (by decide +kernel) (by omega) h1 h2 h3) h (by omega) (by decide +kernel) (by decide +kernel)
theorem freq69 {N : List Rt} {m k : Int} (hN : NotesL 12 (fN std0 12) 11 12 N) (h : SpanIs (PwF (fqL 440000 15000 20000 (nr N 69)) (fqD (nr N 69)) 1) m k) : m = 443801 ∧ k = 443802 := by
  rw [nr69 hN] at h
  exact span_val (fun x y h1 h2 h3 => PwF_anti (fun x hx => by revert x; decide +kernel) (by decide +kernel) (by omega) h1 h2 h3) h (by omega) (by decide +kernel) (by decide +kernel)
end Go.Proofs.YtkoghdgfllichaaDoor.Pc
