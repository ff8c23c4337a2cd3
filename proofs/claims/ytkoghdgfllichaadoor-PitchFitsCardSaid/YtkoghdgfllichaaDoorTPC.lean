import Derived.Test.YtkoghdgfllichaaDoorTPB
namespace Go.Proofs.YtkoghdgfllichaaDoor.Tp
open Go.RowKit

def dfV (D : Int) (F : Nat → V6) (wf i j : Nat) : V6 := (PS (FF D F wf) j).add (V6.scl (-1) (PS (FF D F wf) i))
theorem dfV_neg (D : Int) (F : Nat → V6) (wf i j : Nat) : V6.scl (-1) (dfV D F wf i j) = dfV D F wf j i := by
  unfold dfV V6.scl V6.add; apply V6.eq <;> simp only <;> grind
theorem dfV_le {D : Int} {F : Nat → V6} {wf i j : Nat} (h : i ≤ j) : dfV D F wf i j = PS (fun t => FF D F wf (i + t)) (j - i) := by
  have e := PS_add (FF D F wf) i (j - i)
  rw [show i + (j - i) = j by omega] at e
  unfold dfV
  rw [e]
  unfold V6.scl V6.add; apply V6.eq <;> simp only <;> grind
theorem dfV_mid {D : Int} {F : Nat → V6} {wf i j : Nat} (hw : wf < 12) (h1 : i ≤ wf) (h2 : wf < j) (hj : j ≤ 12) : dfV D F wf i j = (octV (7 * D)).add (V6.scl (-1) ((PS (fun t => F (j + t)) (12 - j)).add (PS F i))) := by
  unfold dfV
  rw [FF_tail hw hj]
  have e1 : PS (fun t => FF D F wf (j + t)) (12 - j) = PS (fun t => F (j + t)) (12 - j) := PS_congr fun t _ => FF_ne (by omega)
  have e2 : PS (FF D F wf) i = PS F i := PS_congr fun t _ => FF_ne (by omega)
  rw [e1, e2]
  unfold V6.scl V6.add; apply V6.eq <;> simp only <;> grind
theorem dfV_out {D : Int} {F : Nat → V6} {wf i j : Nat} (h : i ≤ j) (hw : wf < i ∨ j ≤ wf) : dfV D F wf i j = PS (fun t => F (i + t)) (j - i) := by
  rw [dfV_le h]
  exact PS_congr fun t _ => FF_ne (by omega)
theorem df_bd {D : Int} {F : Nat → V6} {wf i j : Nat} (h : Circ D F wf) (hi : i ≤ 12) (hj : j ≤ 12) : (dfV D F wf i j).bd 57000 := by
  have key : ∀ i j : Nat, i ≤ j → j ≤ 12 → (dfV D F wf i j).bd 57000 := by
    intro i j hij hj
    by_cases hw : wf < i ∨ j ≤ wf
    · rw [dfV_out hij hw]
      have hb : (PS (fun t => F (i + t)) (j - i)).bd ((j - i : Nat) * 4680) := PS_bd fun t ht => h.bd _ (by omega)
      exact hb.mono (by omega)
    · rw [dfV_mid h.w (by omega) (by omega) hj]
      have hb1 : (PS (fun t => F (j + t)) (12 - j)).bd ((12 - j : Nat) * 4680) := PS_bd fun t ht => h.bd _ (by omega)
      have hb2 : (PS F i).bd (i * 4680) := PS_bd fun t ht => h.bd _ (by omega)
      have hd1 := h.d1
      have hd2 := h.d2
      exact ((octV_bd (x := 7 * D) (M := 840) (by omega) (by omega)).add (hb1.add hb2).neg).mono (by omega)
  rcases Nat.le_total i j with h1 | h1
  · exact key i j h1 hj
  · rw [← dfV_neg]; exact (key j i h1 hi).neg
/-- An interval between two places of the circle. -/
def BetIs (D : Int) (F : Nat → V6) (wf i j : Nat) (r : Rt) : Prop := ∃ k, FlIs (dfV D F wf i j) 1 D k ∧ -25 ≤ k ∧ k ≤ 25 ∧ r = lowR ((dfV D F wf i j).two (-(k * D))) D
theorem df_two_bd {D : Int} {F : Nat → V6} {wf i j : Nat} {k : Int} (h : Circ D F wf) (hi : i ≤ 12) (hj : j ≤ 12) (k1 : -100 ≤ k) (k2 : k ≤ 100) : ((dfV D F wf i j).two (-(k * D))).bd 70000 := by
  have h2 := mulD_bd h.d1 h.d2 k1 k2
  exact ((df_bd h hi hj).two (N := 12000) (by omega) (by omega)).mono (by omega)
theorem bet_of {D : Int} {F : Nat → V6} {wf i j : Nat} {a b r : Rt} (h : Circ D F wf) (hi : i ≤ 12) (hj : j ≤ 12) (ha : NoteIs D F wf i a) (hb : NoteIs D F wf j b) (hf : FoldIs (bothW b a (-1)).1 r) : BetIs D F wf i j r := by
  obtain ⟨ki, hki, rfl⟩ := ha
  obtain ⟨kj, hkj, rfl⟩ := hb
  have hd1 := h.d1
  have hd2 := h.d2
  have bi := h.sum_k hi hki
  have bj := h.sum_k hj hkj
  have e : ((PS (FF D F wf) j).two (-(kj * D))).add (V6.scl (-1) ((PS (FF D F wf) i).two (-(ki * D)))) = (dfV D F wf i j).two (-((kj - ki) * D)) := by
    unfold dfV V6.two V6.add V6.scl; apply V6.eq <;> simp only; grind
  have hbd := df_two_bd (k := kj - ki) h hi hj (by omega) (by omega)
  rw [both_low hd1 (by omega) ((h.note_bd hj hj hkj).mono (by omega)) ((h.note_bd hi hi hki).mono (by omega)) (by rw [e]; exact hbd.mono (by omega)), e] at hf
  obtain ⟨m, hm, hr⟩ := hf (lowR_ok hd1 (by omega) (hbd.mono (by omega)))
  rw [low_FlIs (by omega), FlIs.shift] at hm
  have bt : Bt D (dfV D F wf i j) (kj - (ki + 1)) (kj + 1 - ki) := by
    have h1 := (hkj.bt).add (hki.bt).neg
    have e1 : kj + -(ki + 1) = kj - (ki + 1) := by omega
    have e2 : kj + 1 + -ki = kj + 1 - ki := by omega
    rw [e1, e2] at h1
    exact h1
  have bk := bt.fl (by omega) hm
  have e2 : foR (lowR ((dfV D F wf i j).two (-((kj - ki) * D))) D) m = lowR ((dfV D F wf i j).two (-((kj - ki + m) * D))) D := by
    unfold foR
    rw [low_fold (by omega), V6.two_two]
    congr 2
    grind
  refine ⟨kj - ki + m, hm, by omega, by omega, ?_⟩
  rw [← e2]
  refine hr ?_
  rw [e2]
  exact (lowR_ok hd1 (by omega) ((df_two_bd (k := kj - ki + m) h hi hj (by omega) (by omega)).mono (by omega))).fit
theorem Sg_zero {v : V6} (h : Sg v = 0) : v = octV 0 := by
  rw [← sgn_nz] at h
  have hp : (v.zl).Pairwise fun x y => Nat.gcd x.1 y.1 = 1 := by
    show List.Pairwise _ [(2, v.a), (3, v.b), (5, v.c), (7, v.d), (11, v.e), (13, v.f)]
    simp only [List.pairwise_cons, List.mem_cons, List.not_mem_nil, or_false, forall_eq_or_imp, forall_eq, List.Pairwise.nil, and_true, false_imp_iff, forall_const]
    decide
  have ha : Apart (nz v.zl) := by
    refine ⟨fun x hx => ?_, hp.sublist List.filter_sublist⟩
    have h1 := (zl_mem hx).1.1
    have h2 := (List.mem_filter.1 hx).2
    exact ⟨h1, by simpa using h2⟩
  have h0 := (apart_one ha).1 h
  have hall : ∀ x ∈ v.zl, x.2 = 0 := fun x hx => by
    rcases Classical.em (x.2 = 0) with h1 | h1
    · exact h1
    · have : x ∈ nz v.zl := List.mem_filter.2 ⟨hx, by simpa using h1⟩
      rw [h0] at this
      cases this
  have e : ∀ x ∈ [(2, v.a), (3, v.b), (5, v.c), (7, v.d), (11, v.e), (13, v.f)], x.2 = 0 := hall
  simp only [List.mem_cons, List.not_mem_nil, or_false, forall_eq_or_imp, forall_eq] at e
  exact V6.eq e.1 e.2.1 e.2.2.1 e.2.2.2.1 e.2.2.2.2.1 e.2.2.2.2.2
def QS (q : Nat → Int) : Nat → Int
  | 0 => 0
  | n + 1 => QS q n + q n
theorem PS_fv (D : Int) (c : V6) (q : Nat → Int) : ∀ n : Nat, PS (fun t => fvV D c (q t)) n = fvV (n * D) c (QS q n)
  | 0 => by
    show octV 0 = _
    unfold octV fvV V6.scl V6.add w32 QS; apply V6.eq <;> simp
  | n + 1 => by
    show (PS (fun t => fvV D c (q t)) n).add (fvV D c (q n)) = _
    rw [PS_fv D c q n, show QS q (n + 1) = QS q n + q n from rfl]
    generalize QS q n = Q
    unfold fvV V6.scl V6.add w32
    push_cast
    apply V6.eq <;> simp only <;> grind
theorem fv_oct {D Q k : Int} {n : Nat} {sy : Bool} (hD : 1 ≤ D) (h1 : 1 ≤ n) (h2 : n ≤ 11) (h : fvV (n * D) (cmV sy) Q = octV (k * D)) : False := by
  unfold fvV octV V6.scl V6.add w32 at h
  injection h with ea eb ec _ _ _
  rcases cmV_cases sy with e | e
  · rw [e] at ea eb ec
    simp only at ea eb ec
    have hQ : Q = 0 := by omega
    subst hQ
    have h0 : (n : Int) * D = 0 := by omega
    rcases Int.mul_eq_zero.1 h0 with h | h <;> omega
  · rw [e] at ea eb ec
    simp only at ea eb ec
    obtain ⟨x, hx⟩ : ∃ x, x = (n : Int) * D := ⟨_, rfl⟩
    obtain ⟨y, hy⟩ : ∃ y, y = k * D := ⟨_, rfl⟩
    rw [← hx, ← hy] at ea
    rw [← hx] at eb
    have h3 : 7 * x = 12 * y := by omega
    have h4 : (7 * (n : Int) - 12 * k) * D = 0 := by
      rw [Int.sub_mul, Int.mul_assoc, Int.mul_assoc, ← hx, ← hy]; omega
    rcases Int.mul_eq_zero.1 h4 with h | h <;> omega
theorem df_oct {T : Tm} {D k : Int} {wn i j : Nat} (hv : Vd T D wn) (hi : i < 12) (hj : j < 12) (hn : i ≠ j) (h : dfV D (fN T D) wn i j = octV (k * D)) : False := by
  have key : ∀ (i j : Nat) (k : Int), i < j → j < 12 → dfV D (fN T D) wn i j = octV (k * D) → False := by
    intro i j k hij hj h
    have hd := hv.d1
    by_cases hw : wn < i ∨ j ≤ wn
    · rw [dfV_out (by omega) hw] at h
      have e := PS_fv D (cmV T.sy) (fun t => qN T D (i + t)) (j - i)
      have e' : PS (fun t => fN T D (i + t)) (j - i) = fvV ((j - i : Nat) * D) (cmV T.sy) (QS (fun t => qN T D (i + t)) (j - i)) := e
      rw [e'] at h
      exact fv_oct hd (by omega) (by omega) h
    · rw [dfV_mid hv.w (by omega) (by omega) (by omega)] at h
      have e1 : PS (fun t => fN T D (j + t)) (12 - j) = fvV ((12 - j : Nat) * D) (cmV T.sy) (QS (fun t => qN T D (j + t)) (12 - j)) := PS_fv D (cmV T.sy) (fun t => qN T D (j + t)) (12 - j)
      have e2 : PS (fN T D) i = fvV (i * D) (cmV T.sy) (QS (qN T D) i) := PS_fv D (cmV T.sy) (qN T D) i
      rw [e1, e2] at h
      generalize QS (fun t => qN T D (j + t)) (12 - j) = Q1 at h
      generalize QS (qN T D) i = Q2 at h
      refine fv_oct (n := 12 - j + i) (Q := Q1 + Q2) (k := 7 - k) (sy := T.sy) hd (by omega) (by omega) ?_
      have hcast : ((12 - j + i : Nat) : Int) = ((12 - j : Nat) : Int) + (i : Int) := by omega
      rw [hcast]
      generalize ((12 - j : Nat) : Int) = n1 at *
      have a1 := congrArg V6.a h
      have a2 := congrArg V6.b h
      have a3 := congrArg V6.c h
      unfold fvV octV V6.scl V6.add w32 at a1 a2 a3
      simp only at a1 a2 a3
      unfold fvV octV V6.scl V6.add w32
      have hcm : (cmV T.sy).d = 0 ∧ (cmV T.sy).e = 0 ∧ (cmV T.sy).f = 0 := by rcases cmV_cases T.sy with e | e <;> rw [e] <;> exact ⟨rfl, rfl, rfl⟩
      apply V6.eq <;> simp only
      · grind
      · grind
      · grind
      · rw [hcm.1]; simp
      · rw [hcm.2.1]; simp
      · rw [hcm.2.2]; simp
  rcases Nat.lt_or_gt_of_ne hn with h1 | h1
  · exact key i j k h1 hj h
  · refine key j i (-k) h1 hi ?_
    rw [← dfV_neg, h]
    unfold octV V6.scl
    apply V6.eq <;> simp only <;> grind
end Go.Proofs.YtkoghdgfllichaaDoor.Tp
