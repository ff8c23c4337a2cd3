import Derived.Test.YtlababdfdjjjaaaGreatDoorF1
import Derived.Test.YtlababdfdjjjaaaGreatDoorX4
namespace Go.Proofs.YtlababdfdjjjaaaGreatDoor
open Go.RowKit

/-! The reference's functions of fractions, by whole numbers. -/
structure FQ (w : World) (L : Nat) (s : Bool) (vn vd : Value) (N : Int) (D : Nat) : Prop where
  sg : s = decide (N < 0)
  num : Num w w.heap.size vn N.natAbs
  den : Num w w.heap.size vd D
  ne : D ≠ 0
  co : Nat.gcd N.natAbs D = 1
  ln : (dg N.natAbs).length ≤ L
  ld : (dg D).length ≤ L
theorem FQ.up {w w' : World} {L : Nat} {s : Bool} {vn vd : Value} {N : Int} {D : Nat} (h : FQ w L s vn vd N D) (hb : Below w.heap.size w w') : FQ w' L s vn vd N D := ⟨h.sg, h.num.up hb, h.den.up hb, h.ne, h.co, h.ln, h.ld⟩
theorem FQ.more {w : World} {L L' : Nat} {s : Bool} {vn vd : Value} {N : Int} {D : Nat} (h : FQ w L s vn vd N D) (hl : L ≤ L') : FQ w L' s vn vd N D := ⟨h.sg, h.num, h.den, h.ne, h.co, Nat.le_trans h.ln hl, Nat.le_trans h.ld hl⟩
def frOf (N : Int) (D : Nat) : Fr := ⟨decide (N < 0), dg N.natAbs, dg D⟩
theorem dg_last (n : Nat) : (dg n).getLast? ≠ some 0 := by
  intro h
  exact (right_dg n).2 h
theorem examW_dg {a b : Nat} (h1 : (dg a).length ≤ 512) (h2 : (dg b).length ≤ 512) : examW [dg a, dg b] = 0 := by
  unfold examW
  have a1 : ¬ 512 < (dg a).length := by omega
  have a2 : ¬ 512 < (dg b).length := by omega
  simp [a1, a2, dg_last]
theorem FQ.proper {w : World} {L : Nat} {s : Bool} {vn vd : Value} {N : Int} {D : Nat} (h : FQ w L s vn vd N D) (hl : L ≤ 512) : (frOf N D).proper = true ∧ ¬ (frOf N D).ex = 3 ∧ FrV w (frOf N D) vn vd := by
  have h1 := h.ln
  have h2 := h.ld
  have he := examW_dg (a := N.natAbs) (b := D) (by omega) (by omega)
  refine ⟨?_, ?_, ⟨h.num, by show (dg _).length ≤ _; omega⟩, ⟨h.den, by show (dg _).length ≤ _; omega⟩⟩
  · unfold Fr.proper properW frOf
    simp only [he, val_dg, h.co]
    have := h.ne
    by_cases h0 : N < 0
    · have : N.natAbs ≠ 0 := by omega
      simp [*]
    · simp [*]
  · unfold Fr.ex frOf
    simp only [he]
    omega
theorem examQ_one {N : Int} {D : Nat} (p1 : (frOf N D).proper = true) (e1 : ¬ (frOf N D).ex = 3) : examQW [frOf N D] = 0 := by
  unfold examQW
  simp [p1, e1]
theorem examQ_two {N1 N2 : Int} {D1 D2 : Nat} (p1 : (frOf N1 D1).proper = true) (e1 : ¬ (frOf N1 D1).ex = 3) (p2 : (frOf N2 D2).proper = true) (e2 : ¬ (frOf N2 D2).ex = 3) : examQW [frOf N1 D1, frOf N2 D2] = 0 := by
  unfold examQW
  simp [p1, e1, p2, e2]
/-- A fraction that fits, and no error. -/
def FRes (w : World) (L : Nat) (P : Int → Nat → Prop) (e : Ending) (w' : World) : Prop :=
  ∃ (s : Bool) (A : Option Addr) (n c : Nat) (B : Option Addr) (m d : Nat) (N : Int) (D : Nat), e = .returned (.tuple #[.agg #[.bool s, .slice A n c, .slice B m d], .int .i64 0]) ∧ FQ w' L s (.slice A n c) (.slice B m d) N D ∧ P N D ∧ Below w.heap.size w w'
theorem FRes.of {w w' : World} {L : Nat} {P : Int → Nat → Prop} {N : Int} {D : Nat} {e : Ending} (h : ResF w (decide (N < 0), N.natAbs, D, 0) e w') (h1 : D ≠ 0) (h2 : Nat.gcd N.natAbs D = 1) (h3 : (dg N.natAbs).length ≤ L) (h4 : (dg D).length ≤ L) (hp : P N D) : FRes w L P e w' := by
  obtain ⟨A, n, c, B, m, d, he, hn, hd, hb⟩ := h
  exact ⟨_, A, n, c, B, m, d, N, D, he, ⟨rfl, hn, hd, h1, h2, h3, h4⟩, hp, hb⟩
section
variable {w : World} {L1 L2 : Nat} {s1 s2 : Bool} {n1 d1 n2 d2 : Value} {N1 N2 : Int} {D1 D2 : Nat}
theorem pfadd (h1 : FQ w L1 s1 n1 d1 N1 D1) (h2 : FQ w L1 s2 n2 d2 N2 D2) (hL : L1 ≤ 100) :
    Calls Tryz.prog 49 #[.agg #[.bool s1, n1, d1], .agg #[.bool s2, n2, d2]] w (FRes w (4 * L1 + 1) fun N D => N * ((D1 * D2 : Nat) : Int) = (N1 * (D2 : Int) + N2 * (D1 : Int)) * (D : Int)) := by
  obtain ⟨p1, e1, f1⟩ := h1.proper (by omega)
  obtain ⟨p2, e2, f2⟩ := h2.proper (by omega)
  have hx := examQ_two p1 e1 p2 e2
  have m1 := len_mul N1.natAbs D2
  have m2 := len_mul N2.natAbs D1
  have m3 := len_mul D1 D2
  have := h1.ln
  have := h1.ld
  have := h2.ln
  have := h2.ld
  obtain ⟨N, D, a1, a2, a3, a4, a5, a6⟩ := fsum_spec N1 N2 D1 D2 h1.ne h2.ne (by omega) (by omega)
  have h := QAdd_any (frOf N1 D1) (frOf N2 D2) n1 d1 n2 d2 w f1 f2
  have hq : qaddW (frOf N1 D1) (frOf N2 D2) = (decide (N < 0), N.natAbs, D, 0) := by
    unfold qaddW
    rw [if_pos hx]
    show fsumW (decide (N1 < 0)) (val (dg N1.natAbs)) (val (dg D1)) (decide (N2 < 0)) (val (dg N2.natAbs)) (val (dg D2)) = _
    rw [val_dg, val_dg, val_dg, val_dg, a1]
  rw [hq] at h
  rw [h1.sg, h2.sg]
  exact h.mono fun e w' hr => FRes.of hr.forms a2 a3 (by omega) (by omega) a4
theorem pfsub (h1 : FQ w L1 s1 n1 d1 N1 D1) (h2 : FQ w L1 s2 n2 d2 N2 D2) (hL : L1 ≤ 100) :
    Calls Tryz.prog 51 #[.agg #[.bool s1, n1, d1], .agg #[.bool s2, n2, d2]] w (FRes w (4 * L1 + 1) fun N D => N * ((D1 * D2 : Nat) : Int) = (N1 * (D2 : Int) - N2 * (D1 : Int)) * (D : Int)) := by
  obtain ⟨p1, e1, f1⟩ := h1.proper (by omega)
  obtain ⟨p2, e2, f2⟩ := h2.proper (by omega)
  have hx := examQ_two p1 e1 p2 e2
  have m1 := len_mul N1.natAbs D2
  have m2 := len_mul N2.natAbs D1
  have m3 := len_mul D1 D2
  have := h1.ln
  have := h1.ld
  have := h2.ln
  have := h2.ld
  have hab : (-N2).natAbs = N2.natAbs := Int.natAbs_neg N2
  obtain ⟨N, D, a1, a2, a3, a4, a5, a6⟩ := fsum_spec N1 (-N2) D1 D2 h1.ne h2.ne (by rw [hab]; omega) (by omega)
  rw [hab] at a1 a5
  have h := QSub_any (frOf N1 D1) (frOf N2 D2) n1 d1 n2 d2 w f1 f2
  have hq : qsubW (frOf N1 D1) (frOf N2 D2) = (decide (N < 0), N.natAbs, D, 0) := by
    unfold qsubW
    rw [if_pos hx]
    show fsumW (decide (N1 < 0)) (val (dg N1.natAbs)) (val (dg D1)) (!decide (N2 < 0)) (val (dg N2.natAbs)) (val (dg D2)) = _
    rw [val_dg, val_dg, val_dg, val_dg, ← a1]
    by_cases h0 : N2 = 0
    · subst h0; exact fsumW_zero _ _ _ _ _ _
    · have : (!decide (N2 < 0)) = decide (-N2 < 0) := by
        by_cases h : N2 < 0
        · have : ¬ -N2 < 0 := by omega
          simp [h]; omega
        · have : -N2 < 0 := by omega
          simp [h]; omega
      rw [this]
  rw [hq] at h
  rw [h1.sg, h2.sg]
  refine h.mono fun e w' hr => FRes.of hr.forms a2 a3 (by omega) (by omega) ?_
  rw [a4]
  congr 1
  rw [Int.neg_mul]
  omega
theorem pfmul (h1 : FQ w L1 s1 n1 d1 N1 D1) (h2 : FQ w L2 s2 n2 d2 N2 D2) (hL : L1 + L2 ≤ 500) :
    Calls Tryz.prog 54 #[.agg #[.bool s1, n1, d1], .agg #[.bool s2, n2, d2]] w (FRes w (L1 + L2) fun N D => N * ((D1 * D2 : Nat) : Int) = (N1 * N2) * (D : Int)) := by
  obtain ⟨p1, e1, f1⟩ := h1.proper (by omega)
  obtain ⟨p2, e2, f2⟩ := h2.proper (by omega)
  have hx := examQ_two p1 e1 p2 e2
  have m1 := len_mul N1.natAbs N2.natAbs
  have m3 := len_mul D1 D2
  have := h1.ln
  have := h1.ld
  have := h2.ln
  have := h2.ld
  obtain ⟨N, D, a1, a2, a3, a4, a5, a6⟩ := low_spec (decide (N1 < 0) != decide (N2 < 0)) (N1.natAbs * N2.natAbs) (D1 * D2) (Nat.mul_ne_zero h1.ne h2.ne) (by omega) (by omega)
  rw [sgI_ne, sgI_abs, sgI_abs] at a4
  have h := QMul_any (frOf N1 D1) (frOf N2 D2) n1 d1 n2 d2 w f1 f2
  have hq : qmulW (frOf N1 D1) (frOf N2 D2) = (decide (N < 0), N.natAbs, D, 0) := by
    unfold qmulW
    rw [if_pos hx]
    show lowW (decide (N1 < 0) != decide (N2 < 0)) (val (dg N1.natAbs) * val (dg N2.natAbs)) (val (dg D1) * val (dg D2)) = _
    rw [val_dg, val_dg, val_dg, val_dg, a1]
  rw [hq] at h
  rw [h1.sg, h2.sg]
  exact h.mono fun e w' hr => FRes.of hr.forms a2 a3 (by omega) (by omega) a4
theorem pfdiv (h1 : FQ w L1 s1 n1 d1 N1 D1) (h2 : FQ w L2 s2 n2 d2 N2 D2) (hL : L1 + L2 ≤ 500) (h0 : N2 ≠ 0) :
    Calls Tryz.prog 56 #[.agg #[.bool s1, n1, d1], .agg #[.bool s2, n2, d2]] w (FRes w (L1 + L2) fun N D => N * ((D1 * N2.natAbs : Nat) : Int) = (N1 * sgI (decide (N2 < 0)) D2) * (D : Int)) := by
  obtain ⟨p1, e1, f1⟩ := h1.proper (by omega)
  obtain ⟨p2, e2, f2⟩ := h2.proper (by omega)
  have hx := examQ_two p1 e1 p2 e2
  have m1 := len_mul N1.natAbs D2
  have m3 := len_mul D1 N2.natAbs
  have := h1.ln
  have := h1.ld
  have := h2.ln
  have := h2.ld
  obtain ⟨N, D, a1, a2, a3, a4, a5, a6⟩ := low_spec (decide (N1 < 0) != decide (N2 < 0)) (N1.natAbs * D2) (D1 * N2.natAbs) (Nat.mul_ne_zero h1.ne (by omega)) (by omega) (by omega)
  rw [sgI_ne, sgI_abs] at a4
  have h := QDiv_any (frOf N1 D1) (frOf N2 D2) n1 d1 n2 d2 w f1 f2
  have hq : qdivW (frOf N1 D1) (frOf N2 D2) = (decide (N < 0), N.natAbs, D, 0) := by
    unfold qdivW
    rw [if_pos hx]
    show (if val (dg N2.natAbs) = 0 then _ else lowW (decide (N1 < 0) != decide (N2 < 0)) (val (dg N1.natAbs) * val (dg D2)) (val (dg D1) * val (dg N2.natAbs))) = _
    rw [val_dg, val_dg, val_dg, val_dg, if_neg (by omega), a1]
  rw [hq] at h
  rw [h1.sg, h2.sg]
  exact h.mono fun e w' hr => FRes.of hr.forms a2 a3 (by omega) (by omega) a4
def cmp3 (a b : Int) : Int := if a < b then -1 else if a = b then 0 else 1
theorem pfcmp (h1 : FQ w L1 s1 n1 d1 N1 D1) (h2 : FQ w L2 s2 n2 d2 N2 D2) (hL : L1 ≤ 512 ∧ L2 ≤ 512) :
    Calls Tryz.prog 58 #[.agg #[.bool s1, n1, d1], .agg #[.bool s2, n2, d2]] w fun e w' => e = .returned (.tuple #[.int .i64 (cmp3 (N1 * (D2 : Int)) (N2 * (D1 : Int))), .int .i64 0]) ∧ Below w.heap.size w w' := by
  obtain ⟨p1, e1, f1⟩ := h1.proper hL.1
  obtain ⟨p2, e2, f2⟩ := h2.proper hL.2
  have hx := examQ_two p1 e1 p2 e2
  have h := QCmp_any (frOf N1 D1) (frOf N2 D2) n1 d1 n2 d2 w f1 f2
  have hq : qcmpW (frOf N1 D1) (frOf N2 D2) = (cmp3 (N1 * (D2 : Int)) (N2 * (D1 : Int)), 0) := by
    unfold qcmpW
    rw [if_pos hx]
    show (signW (decide (N1 < 0)) (decide (N2 < 0)) (cmpI (val (dg N1.natAbs) * val (dg D2)) (val (dg N2.natAbs) * val (dg D1))), 0) = _
    rw [val_dg, val_dg, val_dg, val_dg, cmp_spec N1 N2 D1 D2 h1.ne h2.ne]
    rfl
  rw [hq] at h
  rw [h1.sg, h2.sg]
  exact h
/-- The floor: sign and size. -/
theorem pffloor (h1 : FQ w L1 s1 n1 d1 N1 D1) (hL : L1 ≤ 512) :
    Calls Tryz.prog 60 #[.agg #[.bool s1, n1, d1]] w fun e w' => ∃ v, e = .returned (.tuple #[.bool s1, v, .int .i64 0]) ∧ Num w' w'.heap.size v (N1 / (D1 : Int)).natAbs ∧ (dg (N1 / (D1 : Int)).natAbs).length ≤ 513 ∧ sgI s1 (N1 / (D1 : Int)).natAbs = N1 / (D1 : Int) ∧ Below w.heap.size w w' := by
  obtain ⟨p1, e1, f1⟩ := h1.proper hL
  have hx := examQ_one p1 e1
  have h := QFloor_any (frOf N1 D1) n1 d1 w f1
  have hf := floor_spec N1 D1 h1.ne
  have hq : qfloorW (frOf N1 D1) = (decide (N1 < 0), (if decide (N1 < 0) = true ∧ N1.natAbs % D1 ≠ 0 then N1.natAbs / D1 + 1 else N1.natAbs / D1), 0) := by
    unfold qfloorW
    rw [if_pos hx]
    show (decide (N1 < 0), (if decide (N1 < 0) = true ∧ val (dg N1.natAbs) % val (dg D1) ≠ 0 then val (dg N1.natAbs) / val (dg D1) + 1 else val (dg N1.natAbs) / val (dg D1)), 0) = _
    rw [val_dg, val_dg]
  rw [hq, show (frOf N1 D1).neg = s1 from h1.sg.symm] at h
  rw [← h1.sg] at h hf
  have hl : (dg (if s1 = true ∧ N1.natAbs % D1 ≠ 0 then N1.natAbs / D1 + 1 else N1.natAbs / D1)).length ≤ 513 := by
    have l1 := dg_mono (Nat.div_le_self N1.natAbs D1)
    have l2 := len_add (N1.natAbs / D1) 1
    have l3 := h1.ln
    rw [len_one] at l2
    split
    · have l4 : N1.natAbs / D1 + 1 ≤ N1.natAbs := by
        rename_i hc
        have hd := h1.ne
        have h5 := Nat.div_add_mod N1.natAbs D1
        have h6 : N1.natAbs / D1 ≤ D1 * (N1.natAbs / D1) := Nat.le_mul_of_pos_left _ (by omega)
        omega
      have := dg_mono l4
      omega
    · omega
  generalize (if s1 = true ∧ N1.natAbs % D1 ≠ 0 then N1.natAbs / D1 + 1 else N1.natAbs / D1) = r at *
  have hr : (N1 / (D1 : Int)).natAbs = r := by rw [← hf]; unfold sgI; cases s1 <;> simp
  rw [hr]
  obtain ⟨K, hK⟩ : ∃ K, K = 513 := ⟨_, rfl⟩
  rw [← hK] at hl ⊢
  exact h.mono fun e w' ⟨v, he, hn, hb⟩ => ⟨v, he, hn, hl, hf, hb⟩
end
end Go.Proofs.YtlababdfdjjjaaaGreatDoor
