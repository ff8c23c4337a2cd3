import Derived.Test.YtmmgbofhbnflkaaYRC
namespace Go.Proofs.Ytmmgbofhbnflkaa
open Go.RowKit

/-! Fractions by their whole numbers. -/
/-- m, signed. -/
def sgI (s : Bool) (m : Nat) : Int := if s then -(m : Int) else (m : Int)
theorem low_spec (sg : Bool) (m n : Nat) (hn : n ≠ 0) (h1 : (dg m).length ≤ 512) (h2 : (dg n).length ≤ 512) :
    ∃ (N : Int) (D : Nat), lowW sg m n = (decide (N < 0), N.natAbs, D, 0) ∧ D ≠ 0 ∧ Nat.gcd N.natAbs D = 1 ∧ N * (n : Int) = sgI sg m * (D : Int) ∧ (dg N.natAbs).length ≤ (dg m).length ∧ (dg D).length ≤ (dg n).length := by
  obtain ⟨g, hg⟩ : ∃ g, g = Nat.gcd m n := ⟨_, rfl⟩
  have hg0 : 0 < g := by rw [hg]; exact Nat.gcd_pos_of_pos_right _ (by omega)
  have hp : m = g * (m / g) := by rw [hg]; exact (Nat.mul_div_cancel' (Nat.gcd_dvd_left m n)).symm
  have hq : n = g * (n / g) := by rw [hg]; exact (Nat.mul_div_cancel' (Nat.gcd_dvd_right m n)).symm
  have l1 : (dg (m / g)).length ≤ (dg m).length := dg_mono (Nat.div_le_self _ _)
  have l2 : (dg (n / g)).length ≤ (dg n).length := dg_mono (Nat.div_le_self _ _)
  have hc : Nat.gcd (m / g) (n / g) = 1 := by
    rw [hg]
    exact Nat.coprime_div_gcd_div_gcd (by rw [← hg]; exact hg0)
  have hlow : lowW sg m n = (sg && decide (m / g ≠ 0), m / g, n / g, 0) := by
    unfold lowW
    rw [← hg, if_neg (by omega)]
  have hd : n / g ≠ 0 := fun e => by rw [e, Nat.mul_zero] at hq; exact hn hq
  clear hg
  generalize m / g = p at *
  generalize n / g = q at *
  refine ⟨sgI sg p, q, ?_, hd, ?_, ?_, ?_, l2⟩
  · rw [hlow]
    unfold sgI
    cases sg
    · have : ¬ ((p : Nat) : Int) < 0 := by omega
      simp
    · by_cases h0 : p = 0
      · subst h0; simp
      · have : 0 < p := by omega
        simp [h0, this]
  · have : (sgI sg p).natAbs = p := by unfold sgI; cases sg <;> simp
    rw [this]; exact hc
  · have : sgI sg m = sgI sg p * (g : Int) := by
      unfold sgI
      rw [hp]
      cases sg
      · simp only [Bool.false_eq_true, if_false]; rw [Int.natCast_mul, Int.mul_comm]
      · simp only [if_true]; rw [Int.natCast_mul, Int.mul_comm, ← Int.neg_mul, Int.neg_mul]
    rw [this, hq, Int.natCast_mul, ← Int.mul_assoc]
  · have : (sgI sg p).natAbs = p := by unfold sgI; cases sg <;> simp
    rw [this]; exact l1
theorem sgI_abs (N : Int) : sgI (decide (N < 0)) N.natAbs = N := by
  unfold sgI
  by_cases h : N < 0
  · simp [h]; omega
  · simp [h]; omega
theorem sgI_mul (s : Bool) (m n : Nat) : sgI s (m * n) = sgI s m * (n : Int) := by
  unfold sgI
  cases s <;> simp [Int.neg_mul]
theorem sgI_ne (s t : Bool) (m n : Nat) : sgI (s != t) (m * n) = sgI s m * sgI t n := by
  unfold sgI
  cases s <;> cases t <;> simp [Int.neg_mul, Int.mul_neg]
/-- The sum. -/
theorem fsum_spec (N1 N2 : Int) (D1 D2 : Nat) (h1 : D1 ≠ 0) (h2 : D2 ≠ 0) (hb : (dg (N1.natAbs * D2)).length + (dg (N2.natAbs * D1)).length < 512) (hb2 : (dg (D1 * D2)).length ≤ 512) :
    ∃ (N : Int) (D : Nat), fsumW (decide (N1 < 0)) N1.natAbs D1 (decide (N2 < 0)) N2.natAbs D2 = (decide (N < 0), N.natAbs, D, 0) ∧ D ≠ 0 ∧ Nat.gcd N.natAbs D = 1 ∧ N * ((D1 * D2 : Nat) : Int) = (N1 * (D2 : Int) + N2 * (D1 : Int)) * (D : Int) ∧ (dg N.natAbs).length ≤ (dg (N1.natAbs * D2)).length + (dg (N2.natAbs * D1)).length + 1 ∧ (dg D).length ≤ (dg (D1 * D2)).length := by
  have e1 := sgI_mul (decide (N1 < 0)) N1.natAbs D2
  have e2 := sgI_mul (decide (N2 < 0)) N2.natAbs D1
  rw [sgI_abs] at e1 e2
  rw [← e1, ← e2]
  have hd : D1 * D2 ≠ 0 := Nat.mul_ne_zero h1 h2
  unfold fsumW
  clear e1 e2
  generalize N1.natAbs * D2 = x at *
  generalize N2.natAbs * D1 = y at *
  generalize D1 * D2 = d at *
  have hl := len_add x y
  have fin : ∀ s z, (dg z).length ≤ (dg x).length + (dg y).length + 1 → sgI s z = sgI (decide (N1 < 0)) x + sgI (decide (N2 < 0)) y → ∃ (N : Int) (D : Nat), lowW s z d = (decide (N < 0), N.natAbs, D, 0) ∧ D ≠ 0 ∧ Nat.gcd N.natAbs D = 1 ∧ N * (d : Int) = (sgI (decide (N1 < 0)) x + sgI (decide (N2 < 0)) y) * (D : Int) ∧ (dg N.natAbs).length ≤ (dg x).length + (dg y).length + 1 ∧ (dg D).length ≤ (dg d).length := by
    intro s z hz hs
    obtain ⟨N, D, a1, a2, a3, a4, a5, a6⟩ := low_spec s z d hd (by omega) hb2
    exact ⟨N, D, a1, a2, a3, by rw [a4, hs], by omega, a6⟩
  generalize decide (N1 < 0) = s at *
  generalize decide (N2 < 0) = t at *
  by_cases hst : s = t
  · rw [if_pos hst]
    refine fin s (x + y) (by omega) ?_
    subst hst
    unfold sgI
    cases s <;> simp
    omega
  · rw [if_neg hst]
    by_cases hlt : x < y
    · rw [if_pos hlt]
      refine fin t (y - x) (by have := dg_mono (show y - x ≤ x + y by omega); omega) ?_
      unfold sgI
      cases s <;> cases t <;> simp at hst ⊢ <;> omega
    · rw [if_neg hlt]
      refine fin s (x - y) (by have := dg_mono (show x - y ≤ x + y by omega); omega) ?_
      unfold sgI
      cases s <;> cases t <;> simp at hst ⊢ <;> omega
/-- The floor. -/
theorem floor_spec (N : Int) (D : Nat) (hD : D ≠ 0) : sgI (decide (N < 0)) (if decide (N < 0) = true ∧ N.natAbs % D ≠ 0 then N.natAbs / D + 1 else N.natAbs / D) = N / (D : Int) := by
  have hd : (0 : Int) < (D : Int) := by omega
  unfold sgI
  by_cases h : N < 0
  · have hN : N = -(N.natAbs : Int) := by omega
    generalize N.natAbs = m at *
    subst hN
    have h1 := Nat.div_add_mod m D
    have h2 := Nat.mod_lt m (show 0 < D by omega)
    rw [decide_eq_true h]
    simp only [true_and, if_true]
    by_cases h0 : m % D = 0
    · rw [if_neg (by simp [h0])]
      have e : (m : Int) = (D : Int) * ((m / D : Nat) : Int) := by rw [h0, Nat.add_zero] at h1; exact_mod_cast h1.symm
      symm
      rw [e, ← Int.mul_neg, Int.mul_ediv_cancel_left _ (by omega)]
    · rw [if_pos h0]
      have e : (m : Int) = (D : Int) * ((m / D : Nat) : Int) + ((m % D : Nat) : Int) := by exact_mod_cast h1.symm
      generalize m / D = q at *
      generalize m % D = r at *
      symm
      have e2 : -(m : Int) = ((D : Int) - (r : Int)) + (D : Int) * (-((q + 1 : Nat) : Int)) := by
        rw [e, Int.mul_neg, Int.natCast_add, Int.mul_add]; omega
      rw [e2, Int.add_mul_ediv_left _ _ (by omega), Int.ediv_eq_zero_of_lt (by omega) (by omega)]
      omega
  · have hN : N = (N.natAbs : Int) := by omega
    generalize N.natAbs = m at *
    subst hN
    rw [decide_eq_false h]
    simp
theorem floor_mono {N1 N2 : Int} {D1 D2 : Nat} (h1 : D1 ≠ 0) (h2 : D2 ≠ 0) (h : N1 * (D2 : Int) ≤ N2 * (D1 : Int)) : N1 / (D1 : Int) ≤ N2 / (D2 : Int) := by
  have p1 : (0 : Int) < (D1 : Int) := by omega
  have p2 : (0 : Int) < (D2 : Int) := by omega
  rw [Int.le_ediv_iff_mul_le p2]
  have e := Int.ediv_mul_le N1 (Int.ne_of_gt p1)
  have h3 : N1 / (D1 : Int) * (D2 : Int) * (D1 : Int) ≤ N2 * (D1 : Int) := by
    have h4 := Int.mul_le_mul_of_nonneg_right e (Int.le_of_lt p2)
    have e5 : N1 / (D1 : Int) * (D2 : Int) * (D1 : Int) = N1 / (D1 : Int) * (D1 : Int) * (D2 : Int) := by rw [Int.mul_assoc, Int.mul_comm (D2 : Int), ← Int.mul_assoc]
    omega
  exact Int.le_of_mul_le_mul_right h3 p1
theorem cross_trans {N1 N2 N3 : Int} {D1 D2 D3 : Nat} (h2 : D2 ≠ 0) (a : N1 * (D2 : Int) ≤ N2 * (D1 : Int)) (b : N2 * (D3 : Int) ≤ N3 * (D2 : Int)) : N1 * (D3 : Int) ≤ N3 * (D1 : Int) := by
  have p2 : (0 : Int) < (D2 : Int) := by omega
  have a' := Int.mul_le_mul_of_nonneg_right a (Int.natCast_nonneg D3)
  have b' := Int.mul_le_mul_of_nonneg_right b (Int.natCast_nonneg D1)
  have e1 : N1 * (D2 : Int) * (D3 : Int) = N1 * (D3 : Int) * (D2 : Int) := by rw [Int.mul_assoc, Int.mul_comm (D2 : Int), ← Int.mul_assoc]
  have e2 : N2 * (D1 : Int) * (D3 : Int) = N2 * (D3 : Int) * (D1 : Int) := by rw [Int.mul_assoc, Int.mul_comm (D1 : Int), ← Int.mul_assoc]
  have e3 : N3 * (D2 : Int) * (D1 : Int) = N3 * (D1 : Int) * (D2 : Int) := by rw [Int.mul_assoc, Int.mul_comm (D2 : Int), ← Int.mul_assoc]
  exact Int.le_of_mul_le_mul_right (by omega) p2
/-- What a quotient of the same value has for floor and ceiling. -/
theorem floor_same {N a : Int} {D b : Nat} (hD : D ≠ 0) (hb : b ≠ 0) (h : N * (b : Int) = a * (D : Int)) : N / (D : Int) = a / (b : Int) :=
  Int.le_antisymm (floor_mono hD hb (Int.le_of_eq h)) (floor_mono hb hD (Int.le_of_eq h.symm))
theorem up_same {N a : Int} {D b : Nat} (hD : D ≠ 0) (hb : b ≠ 0) (h : N * (b : Int) = a * (D : Int)) : upI N (D : Int) = upI a (b : Int) := by
  unfold upI
  rw [floor_same (N := -N) (a := -a) hD hb (by rw [Int.neg_mul, Int.neg_mul, h])]
theorem up_mono {N1 N2 : Int} {D1 D2 : Nat} (h1 : D1 ≠ 0) (h2 : D2 ≠ 0) (h : N1 * (D2 : Int) ≤ N2 * (D1 : Int)) : upI N1 (D1 : Int) ≤ upI N2 (D2 : Int) := by
  unfold upI
  have := floor_mono (N1 := -N2) (N2 := -N1) h2 h1 (by rw [Int.neg_mul, Int.neg_mul]; omega)
  omega
/-- The sign of a comparison. -/
theorem cmp_spec (N1 N2 : Int) (D1 D2 : Nat) (h1 : D1 ≠ 0) (h2 : D2 ≠ 0) :
    signW (decide (N1 < 0)) (decide (N2 < 0)) (cmpI (N1.natAbs * D2) (N2.natAbs * D1)) = (if N1 * (D2 : Int) < N2 * (D1 : Int) then -1 else if N1 * (D2 : Int) = N2 * (D1 : Int) then 0 else 1) := by
  have e1 := sgI_mul (decide (N1 < 0)) N1.natAbs D2
  have e2 := sgI_mul (decide (N2 < 0)) N2.natAbs D1
  rw [sgI_abs] at e1 e2
  rw [← e1, ← e2]
  have z1 : N1 < 0 → N1.natAbs * D2 ≠ 0 := fun h => Nat.mul_ne_zero (by omega) h2
  have z2 : N2 < 0 → N2.natAbs * D1 ≠ 0 := fun h => Nat.mul_ne_zero (by omega) h1
  clear e1 e2
  generalize N1.natAbs * D2 = x at *
  generalize N2.natAbs * D1 = y at *
  unfold signW sgI cmpI
  by_cases a : N1 < 0 <;> by_cases b : N2 < 0 <;> simp only [a, b, decide_true, decide_false, if_true, if_false, Bool.false_eq_true] <;> repeat' split
  all_goals (try have := z1 a); (try have := z2 b); omega
end Go.Proofs.Ytmmgbofhbnflkaa
namespace Go.Proofs.Ytmmgbofhbnflkaa
open Go.RowKit

/-! The reference's functions of fractions, by whole numbers. -/
structure FQ (w : World) (L : Nat) (s : Bool) (vn vd : Value) (N : Int) (D : Nat) : Prop where
  sg : s = decide (N < 0)
  num : Num w w.heap.size vn N.natAbs
  den : Num w w.heap.size vd D
  ne : D ≠ 0
  co : Nat.gcd N.natAbs D = 1
  ln : (dg N.natAbs).length ≤ L
  ld : (dg D).length ≤ L
theorem FQ.up {w w' : World} {L : Nat} {s : Bool} {vn vd : Value} {N : Int} {D : Nat} (h : FQ w L s vn vd N D) (hb : Below w.heap.size w w') : FQ w' L s vn vd N D := ⟨h.sg, h.num.up hb, h.den.up hb, h.ne, h.co, h.ln, h.ld⟩
theorem FQ.more {w : World} {L L' : Nat} {s : Bool} {vn vd : Value} {N : Int} {D : Nat} (h : FQ w L s vn vd N D) (hl : L ≤ L') : FQ w L' s vn vd N D := ⟨h.sg, h.num, h.den, h.ne, h.co, Nat.le_trans h.ln hl, Nat.le_trans h.ld hl⟩
def frOf (N : Int) (D : Nat) : Fr := ⟨decide (N < 0), dg N.natAbs, dg D⟩
theorem dg_last (n : Nat) : (dg n).getLast? ≠ some 0 := by
  intro h
  exact (right_dg n).2 h
theorem examW_dg {a b : Nat} (h1 : (dg a).length ≤ 512) (h2 : (dg b).length ≤ 512) : examW [dg a, dg b] = 0 := by
  unfold examW
  have a1 : ¬ 512 < (dg a).length := by omega
  have a2 : ¬ 512 < (dg b).length := by omega
  simp [a1, a2, dg_last]
theorem FQ.proper {w : World} {L : Nat} {s : Bool} {vn vd : Value} {N : Int} {D : Nat} (h : FQ w L s vn vd N D) (hl : L ≤ 512) : (frOf N D).proper = true ∧ ¬ (frOf N D).ex = 3 ∧ FrV w (frOf N D) vn vd := by
  have h1 := h.ln
  have h2 := h.ld
  have he := examW_dg (a := N.natAbs) (b := D) (by omega) (by omega)
  refine ⟨?_, ?_, ⟨h.num, by show (dg _).length ≤ _; omega⟩, ⟨h.den, by show (dg _).length ≤ _; omega⟩⟩
  · unfold Fr.proper properW frOf
    simp only [he, val_dg, h.co]
    have := h.ne
    by_cases h0 : N < 0
    · have : N.natAbs ≠ 0 := by omega
      simp [*]
    · simp [*]
  · unfold Fr.ex frOf
    simp only [he]
    omega
theorem examQ_one {N : Int} {D : Nat} (p1 : (frOf N D).proper = true) (e1 : ¬ (frOf N D).ex = 3) : examQW [frOf N D] = 0 := by
  unfold examQW
  simp [p1, e1]
theorem examQ_two {N1 N2 : Int} {D1 D2 : Nat} (p1 : (frOf N1 D1).proper = true) (e1 : ¬ (frOf N1 D1).ex = 3) (p2 : (frOf N2 D2).proper = true) (e2 : ¬ (frOf N2 D2).ex = 3) : examQW [frOf N1 D1, frOf N2 D2] = 0 := by
  unfold examQW
  simp [p1, e1, p2, e2]
/-- A fraction that fits, and no error. -/
def FRes (w : World) (L : Nat) (P : Int → Nat → Prop) (e : Ending) (w' : World) : Prop :=
  ∃ (s : Bool) (A : Option Addr) (n c : Nat) (B : Option Addr) (m d : Nat) (N : Int) (D : Nat), e = .returned (.tuple #[.agg #[.bool s, .slice A n c, .slice B m d], .int .i64 0]) ∧ FQ w' L s (.slice A n c) (.slice B m d) N D ∧ P N D ∧ Below w.heap.size w w'
theorem FRes.of {w w' : World} {L : Nat} {P : Int → Nat → Prop} {N : Int} {D : Nat} {e : Ending} (h : ResF w (decide (N < 0), N.natAbs, D, 0) e w') (h1 : D ≠ 0) (h2 : Nat.gcd N.natAbs D = 1) (h3 : (dg N.natAbs).length ≤ L) (h4 : (dg D).length ≤ L) (hp : P N D) : FRes w L P e w' := by
  obtain ⟨A, n, c, B, m, d, he, hn, hd, hb⟩ := h
  exact ⟨_, A, n, c, B, m, d, N, D, he, ⟨rfl, hn, hd, h1, h2, h3, h4⟩, hp, hb⟩
section
variable {w : World} {L1 L2 : Nat} {s1 s2 : Bool} {n1 d1 n2 d2 : Value} {N1 N2 : Int} {D1 D2 : Nat}
theorem fadd (h1 : FQ w L1 s1 n1 d1 N1 D1) (h2 : FQ w L1 s2 n2 d2 N2 D2) (hL : L1 ≤ 100) :
    Calls Try.prog 87 #[.agg #[.bool s1, n1, d1], .agg #[.bool s2, n2, d2]] w (FRes w (4 * L1 + 1) fun N D => N * ((D1 * D2 : Nat) : Int) = (N1 * (D2 : Int) + N2 * (D1 : Int)) * (D : Int)) := by
  obtain ⟨p1, e1, f1⟩ := h1.proper (by omega)
  obtain ⟨p2, e2, f2⟩ := h2.proper (by omega)
  have hx := examQ_two p1 e1 p2 e2
  have m1 := len_mul N1.natAbs D2
  have m2 := len_mul N2.natAbs D1
  have m3 := len_mul D1 D2
  have := h1.ln
  have := h1.ld
  have := h2.ln
  have := h2.ld
  obtain ⟨N, D, a1, a2, a3, a4, a5, a6⟩ := fsum_spec N1 N2 D1 D2 h1.ne h2.ne (by omega) (by omega)
  have h := rQAdd_any (frOf N1 D1) (frOf N2 D2) n1 d1 n2 d2 w f1 f2
  have hq : qaddW (frOf N1 D1) (frOf N2 D2) = (decide (N < 0), N.natAbs, D, 0) := by
    unfold qaddW
    rw [if_pos hx]
    show fsumW (decide (N1 < 0)) (val (dg N1.natAbs)) (val (dg D1)) (decide (N2 < 0)) (val (dg N2.natAbs)) (val (dg D2)) = _
    rw [val_dg, val_dg, val_dg, val_dg, a1]
  rw [hq] at h
  rw [h1.sg, h2.sg]
  exact h.mono fun e w' hr => FRes.of hr.forms a2 a3 (by omega) (by omega) a4
theorem fsub (h1 : FQ w L1 s1 n1 d1 N1 D1) (h2 : FQ w L1 s2 n2 d2 N2 D2) (hL : L1 ≤ 100) :
    Calls Try.prog 88 #[.agg #[.bool s1, n1, d1], .agg #[.bool s2, n2, d2]] w (FRes w (4 * L1 + 1) fun N D => N * ((D1 * D2 : Nat) : Int) = (N1 * (D2 : Int) - N2 * (D1 : Int)) * (D : Int)) := by
  obtain ⟨p1, e1, f1⟩ := h1.proper (by omega)
  obtain ⟨p2, e2, f2⟩ := h2.proper (by omega)
  have hx := examQ_two p1 e1 p2 e2
  have m1 := len_mul N1.natAbs D2
  have m2 := len_mul N2.natAbs D1
  have m3 := len_mul D1 D2
  have := h1.ln
  have := h1.ld
  have := h2.ln
  have := h2.ld
  have hab : (-N2).natAbs = N2.natAbs := Int.natAbs_neg N2
  obtain ⟨N, D, a1, a2, a3, a4, a5, a6⟩ := fsum_spec N1 (-N2) D1 D2 h1.ne h2.ne (by rw [hab]; omega) (by omega)
  rw [hab] at a1 a5
  have h := rQSub_any (frOf N1 D1) (frOf N2 D2) n1 d1 n2 d2 w f1 f2
  have hq : qsubW (frOf N1 D1) (frOf N2 D2) = (decide (N < 0), N.natAbs, D, 0) := by
    unfold qsubW
    rw [if_pos hx]
    show fsumW (decide (N1 < 0)) (val (dg N1.natAbs)) (val (dg D1)) (!decide (N2 < 0)) (val (dg N2.natAbs)) (val (dg D2)) = _
    rw [val_dg, val_dg, val_dg, val_dg, ← a1]
    by_cases h0 : N2 = 0
    · subst h0; exact fsumW_zero _ _ _ _ _ _
    · have : (!decide (N2 < 0)) = decide (-N2 < 0) := by
        by_cases h : N2 < 0
        · have : ¬ -N2 < 0 := by omega
          simp [h]; omega
        · have : -N2 < 0 := by omega
          simp [h]; omega
      rw [this]
  rw [hq] at h
  rw [h1.sg, h2.sg]
  refine h.mono fun e w' hr => FRes.of hr.forms a2 a3 (by omega) (by omega) ?_
  rw [a4]
  congr 1
  rw [Int.neg_mul]
  omega
theorem fmul (h1 : FQ w L1 s1 n1 d1 N1 D1) (h2 : FQ w L2 s2 n2 d2 N2 D2) (hL : L1 + L2 ≤ 500) :
    Calls Try.prog 52 #[.agg #[.bool s1, n1, d1], .agg #[.bool s2, n2, d2]] w (FRes w (L1 + L2) fun N D => N * ((D1 * D2 : Nat) : Int) = (N1 * N2) * (D : Int)) := by
  obtain ⟨p1, e1, f1⟩ := h1.proper (by omega)
  obtain ⟨p2, e2, f2⟩ := h2.proper (by omega)
  have hx := examQ_two p1 e1 p2 e2
  have m1 := len_mul N1.natAbs N2.natAbs
  have m3 := len_mul D1 D2
  have := h1.ln
  have := h1.ld
  have := h2.ln
  have := h2.ld
  obtain ⟨N, D, a1, a2, a3, a4, a5, a6⟩ := low_spec (decide (N1 < 0) != decide (N2 < 0)) (N1.natAbs * N2.natAbs) (D1 * D2) (Nat.mul_ne_zero h1.ne h2.ne) (by omega) (by omega)
  rw [sgI_ne, sgI_abs, sgI_abs] at a4
  have h := rQMul_any (frOf N1 D1) (frOf N2 D2) n1 d1 n2 d2 w f1 f2
  have hq : qmulW (frOf N1 D1) (frOf N2 D2) = (decide (N < 0), N.natAbs, D, 0) := by
    unfold qmulW
    rw [if_pos hx]
    show lowW (decide (N1 < 0) != decide (N2 < 0)) (val (dg N1.natAbs) * val (dg N2.natAbs)) (val (dg D1) * val (dg D2)) = _
    rw [val_dg, val_dg, val_dg, val_dg, a1]
  rw [hq] at h
  rw [h1.sg, h2.sg]
  exact h.mono fun e w' hr => FRes.of hr.forms a2 a3 (by omega) (by omega) a4
theorem fdiv (h1 : FQ w L1 s1 n1 d1 N1 D1) (h2 : FQ w L2 s2 n2 d2 N2 D2) (hL : L1 + L2 ≤ 500) (h0 : N2 ≠ 0) :
    Calls Try.prog 73 #[.agg #[.bool s1, n1, d1], .agg #[.bool s2, n2, d2]] w (FRes w (L1 + L2) fun N D => N * ((D1 * N2.natAbs : Nat) : Int) = (N1 * sgI (decide (N2 < 0)) D2) * (D : Int)) := by
  obtain ⟨p1, e1, f1⟩ := h1.proper (by omega)
  obtain ⟨p2, e2, f2⟩ := h2.proper (by omega)
  have hx := examQ_two p1 e1 p2 e2
  have m1 := len_mul N1.natAbs D2
  have m3 := len_mul D1 N2.natAbs
  have := h1.ln
  have := h1.ld
  have := h2.ln
  have := h2.ld
  obtain ⟨N, D, a1, a2, a3, a4, a5, a6⟩ := low_spec (decide (N1 < 0) != decide (N2 < 0)) (N1.natAbs * D2) (D1 * N2.natAbs) (Nat.mul_ne_zero h1.ne (by omega)) (by omega) (by omega)
  rw [sgI_ne, sgI_abs] at a4
  have h := rQDiv_any (frOf N1 D1) (frOf N2 D2) n1 d1 n2 d2 w f1 f2
  have hq : qdivW (frOf N1 D1) (frOf N2 D2) = (decide (N < 0), N.natAbs, D, 0) := by
    unfold qdivW
    rw [if_pos hx]
    show (if val (dg N2.natAbs) = 0 then _ else lowW (decide (N1 < 0) != decide (N2 < 0)) (val (dg N1.natAbs) * val (dg D2)) (val (dg D1) * val (dg N2.natAbs))) = _
    rw [val_dg, val_dg, val_dg, val_dg, if_neg (by omega), a1]
  rw [hq] at h
  rw [h1.sg, h2.sg]
  exact h.mono fun e w' hr => FRes.of hr.forms a2 a3 (by omega) (by omega) a4
def cmp3 (a b : Int) : Int := if a < b then -1 else if a = b then 0 else 1
theorem fcmp (h1 : FQ w L1 s1 n1 d1 N1 D1) (h2 : FQ w L2 s2 n2 d2 N2 D2) (hL : L1 ≤ 512 ∧ L2 ≤ 512) :
    Calls Try.prog 77 #[.agg #[.bool s1, n1, d1], .agg #[.bool s2, n2, d2]] w fun e w' => e = .returned (.tuple #[.int .i64 (cmp3 (N1 * (D2 : Int)) (N2 * (D1 : Int))), .int .i64 0]) ∧ Below w.heap.size w w' := by
  obtain ⟨p1, e1, f1⟩ := h1.proper hL.1
  obtain ⟨p2, e2, f2⟩ := h2.proper hL.2
  have hx := examQ_two p1 e1 p2 e2
  have h := rQCmp_any (frOf N1 D1) (frOf N2 D2) n1 d1 n2 d2 w f1 f2
  have hq : qcmpW (frOf N1 D1) (frOf N2 D2) = (cmp3 (N1 * (D2 : Int)) (N2 * (D1 : Int)), 0) := by
    unfold qcmpW
    rw [if_pos hx]
    show (signW (decide (N1 < 0)) (decide (N2 < 0)) (cmpI (val (dg N1.natAbs) * val (dg D2)) (val (dg N2.natAbs) * val (dg D1))), 0) = _
    rw [val_dg, val_dg, val_dg, val_dg, cmp_spec N1 N2 D1 D2 h1.ne h2.ne]
    rfl
  rw [hq] at h
  rw [h1.sg, h2.sg]
  exact h
/-- The floor: sign and size. -/
theorem ffloor (h1 : FQ w L1 s1 n1 d1 N1 D1) (hL : L1 ≤ 512) :
    Calls Try.prog 96 #[.agg #[.bool s1, n1, d1]] w fun e w' => ∃ v, e = .returned (.tuple #[.bool s1, v, .int .i64 0]) ∧ Num w' w'.heap.size v (N1 / (D1 : Int)).natAbs ∧ (dg (N1 / (D1 : Int)).natAbs).length ≤ 513 ∧ sgI s1 (N1 / (D1 : Int)).natAbs = N1 / (D1 : Int) ∧ Below w.heap.size w w' := by
  obtain ⟨p1, e1, f1⟩ := h1.proper hL
  have hx := examQ_one p1 e1
  have h := rQFloor_any (frOf N1 D1) n1 d1 w f1
  have hf := floor_spec N1 D1 h1.ne
  have hq : qfloorW (frOf N1 D1) = (decide (N1 < 0), (if decide (N1 < 0) = true ∧ N1.natAbs % D1 ≠ 0 then N1.natAbs / D1 + 1 else N1.natAbs / D1), 0) := by
    unfold qfloorW
    rw [if_pos hx]
    show (decide (N1 < 0), (if decide (N1 < 0) = true ∧ val (dg N1.natAbs) % val (dg D1) ≠ 0 then val (dg N1.natAbs) / val (dg D1) + 1 else val (dg N1.natAbs) / val (dg D1)), 0) = _
    rw [val_dg, val_dg]
  rw [hq, show (frOf N1 D1).neg = s1 from h1.sg.symm] at h
  rw [← h1.sg] at h hf
  have hl : (dg (if s1 = true ∧ N1.natAbs % D1 ≠ 0 then N1.natAbs / D1 + 1 else N1.natAbs / D1)).length ≤ 513 := by
    have l1 := dg_mono (Nat.div_le_self N1.natAbs D1)
    have l2 := len_add (N1.natAbs / D1) 1
    have l3 := h1.ln
    rw [len_one] at l2
    split
    · have l4 : N1.natAbs / D1 + 1 ≤ N1.natAbs := by
        rename_i hc
        have hd := h1.ne
        have h5 := Nat.div_add_mod N1.natAbs D1
        have h6 : N1.natAbs / D1 ≤ D1 * (N1.natAbs / D1) := Nat.le_mul_of_pos_left _ (by omega)
        omega
      have := dg_mono l4
      omega
    · omega
  generalize (if s1 = true ∧ N1.natAbs % D1 ≠ 0 then N1.natAbs / D1 + 1 else N1.natAbs / D1) = r at *
  have hr : (N1 / (D1 : Int)).natAbs = r := by rw [← hf]; unfold sgI; cases s1 <;> simp
  rw [hr]
  obtain ⟨K, hK⟩ : ∃ K, K = 513 := ⟨_, rfl⟩
  rw [← hK] at hl ⊢
  exact h.mono fun e w' ⟨v, he, hn, hb⟩ => ⟨v, he, hn, hl, hf, hb⟩
end
end Go.Proofs.Ytmmgbofhbnflkaa
namespace Go.Proofs.Ytmmgbofhbnflkaa
open Go.RowKit

theorem small_spec (G : Nat) : ∃ (u : Nat) (ec : Int), smallW (dg G) = (u, ec) ∧ ((ec = 0 ∧ u = G ∧ G < 18446744073709551616) ∨ (ec ≠ 0 ∧ 4611686018427387904 < G)) := by
  unfold smallW
  by_cases h : 512 < (dg G).length
  · have he : examW [dg G] = 3 := by unfold examW; simp [h]
    rw [he, if_neg (by omega)]
    refine ⟨0, 3, rfl, .inr ⟨by omega, ?_⟩⟩
    have h1 : ¬ (dg G).length ≤ 2 := by omega
    rw [dg_le] at h1
    have h2 : LB ^ 2 = 18446744073709551616 := rfl
    omega
  · have he : examW [dg G] = 0 := by unfold examW; simp [h, dg_last]
    rw [he, if_pos rfl, val_dg]
    have h1 := bits_le_iff (n := G) (k := 64)
    have h2 : (2 : Nat) ^ 64 = 18446744073709551616 := rfl
    rw [h2] at h1
    by_cases hb : 64 < bitsOf G
    · rw [if_pos hb]
      exact ⟨0, 7, rfl, .inr ⟨by omega, by omega⟩⟩
    · rw [if_neg hb]
      exact ⟨G, 0, rfl, .inl ⟨rfl, rfl, by omega⟩⟩
def okV (F : Int) : Int := if okB F then F else 0

set_option maxRecDepth 100000 in
set_option maxHeartbeats 1000000 in
theorem floor03_any {w : World} {L : Nat} {s : Bool} {vn vd : Value} {N : Int} {D : Nat} (h1 : FQ w L s vn vd N D) (hL : L ≤ 512) :
    Calls Try.prog 78 #[.agg #[.bool s, vn, vd]] w fun e w' => e = .returned (.tuple #[.int .i64 (okV (N / (D : Int))), .bool (okB (N / (D : Int)))]) ∧ Below w.heap.size w w' := by
  have hb0 : Below w.heap.size w (w.alloc (.cells #[.bool s, vn, vd] 61)) := (Below.refl _ w).alloc (Nat.le_refl _) _
  have hfl := ffloor (h1.up hb0) hL
  have hq := QB.new w s vn vd
  have c0 := hq.c0
  have c1 := hq.c1
  have c2 := hq.c2
  obtain ⟨A1, e1, rfl, -⟩ := h1.num.form
  obtain ⟨A2, e2, rfl, -⟩ := h1.den.form
  clear h1
  generalize (dg N.natAbs).length = l1 at *
  generalize (dg D).length = l2 at *
  generalize N / (D : Int) = F at *
  have HFL := Lib.hid hfl
  have HB0 := Lib.hid hb0
  clear hfl hq hb0
  obtain ⟨u, ec, hsm, hcase⟩ := small_spec F.natAbs
  have HSM := Lib.hid hsm
  have HCASE := Lib.hid hcase
  clear hsm hcase
  go_enter Try.func78, Try.ntmps78
  go_wp2_with fail
  refine HFL.out.mono ?_
  rintro e w2 ⟨v, he, hn, hlen, hsg, hb2⟩
  subst he
  have hsc := rSmall_any v (dg F.natAbs) w2 ⟨hn, by omega⟩
  rw [HSM.out] at hsc
  have HSC := Lib.hid hsc
  have HB2 := Lib.hid (HB0.out.trans (hb2.mono HB0.out.size))
  have HSG := Lib.hid hsg
  clear hsc hb2 hsg hlen
  obtain ⟨A3, e3, rfl, -⟩ := hn.form
  clear hn
  generalize (dg F.natAbs).length = l3 at *
  go_wp2_with fail
  refine HSC.out.mono ?_
  rintro e w3 ⟨he, hb3⟩
  subst he
  have HB3 := Lib.hid (HB2.out.trans (hb3.mono HB2.out.size))
  clear hb3
  rcases HCASE.out with ⟨h0, hu, hg⟩ | ⟨h0, hg⟩
  · subst h0
    by_cases hbig : 4611686018427387904 < u
    · have hno : okB F = false := by
        have h1 := HSG.out
        unfold sgI at h1
        unfold okB
        cases s <;> simp at h1 ⊢ <;> omega
      have hv : okV F = 0 := by unfold okV; rw [hno]; rfl
      have HNO := Lib.hid hno
      have HV := Lib.hid hv
      have HBIG := Lib.hid hbig
      have t1 : decide ((4611686018427387904 : Int) < (u : Int)) = true := decide_eq_true (by omega)
      have t2 : (4611686018427387904 : Int) < (u : Int) := by omega
      clear hu hg hno hv hbig
      go_wp2_with fail
      go_ret2
      exact ⟨by rw [HV.out, HNO.out]; rfl, HB3.out⟩
    · have hyes : okB F = true := by
        have h1 := HSG.out
        unfold sgI at h1
        rw [okB_iff]
        cases s <;> simp at h1 <;> omega
      have hv : okV F = F := by unfold okV; rw [hyes]; rfl
      have hF := HSG.out
      rw [← hu] at hF
      have HYES := Lib.hid hyes
      have HV := Lib.hid hv
      have HF := Lib.hid hF
      have t1 : decide ((4611686018427387904 : Int) < (u : Int)) = false := decide_eq_false (by omega)
      have t2 : ¬ (4611686018427387904 : Int) < (u : Int) := by omega
      have i0 : IntKind.i64.wrap (u : Int) = (u : Int) := IntWalk.i64_in _ (by omega)
      have i1 : IntKind.i64.wrap (-(u : Int)) = -(u : Int) := IntWalk.i64_in _ (by omega)
      clear hu hg hyes hv hbig hF
      cases s
      all_goals
        go_wp2_with fail
        go_ret2
        exact ⟨by rw [HV.out, HYES.out, ← HF.out]; rfl, HB3.out⟩
  · have hno : okB F = false := by
      have h1 := HSG.out
      unfold sgI at h1
      unfold okB
      cases s <;> simp at h1 ⊢ <;> omega
    have hv : okV F = 0 := by unfold okV; rw [hno]; rfl
    have HNO := Lib.hid hno
    have HV := Lib.hid hv
    have q1 : (ec == 0) = false := by simp [h0]
    have q2 : (ec != 0) = true := by simp [h0]
    clear hg hno hv h0
    go_wp2_with fail
    go_ret2
    exact ⟨by rw [HV.out, HNO.out]; rfl, HB3.out⟩
end Go.Proofs.Ytmmgbofhbnflkaa
namespace Go.Proofs.Ytmmgbofhbnflkaa
open Go.RowKit

theorem okB_neg (F : Int) : okB (-F) = okB F := by
  unfold okB
  by_cases a : -4611686018427387904 ≤ F <;> by_cases b : F ≤ 4611686018427387904 <;> simp [a, b] <;> omega
theorem okV_neg (F : Int) : okV (-F) = -okV F := by
  unfold okV
  rw [okB_neg]
  split <;> simp
theorem okV_bd (F : Int) : -4611686018427387904 ≤ okV F ∧ okV F ≤ 4611686018427387904 := by
  unfold okV
  by_cases h : okB F = true
  · rw [if_pos h]; exact okB_iff.1 h
  · rw [if_neg h]; omega
theorem FQ.turned {w : World} {L : Nat} {s : Bool} {vn vd : Value} {N : Int} {D : Nat} (h : FQ w L s vn vd N D) : FQ w L (!s && decide (0 < (dg N.natAbs).length)) vn vd (-N) D := by
  have hab : (-N).natAbs = N.natAbs := Int.natAbs_neg N
  refine ⟨?_, by rw [hab]; exact h.num, h.den, h.ne, by rw [hab]; exact h.co, by rw [hab]; exact h.ln, h.ld⟩
  have hz := dg_zero_iff (n := N.natAbs)
  rw [h.sg]
  by_cases a : N < 0
  · have : ¬ -N < 0 := by omega
    simp [a]; omega
  · by_cases b : N = 0
    · have h0 : (dg N.natAbs).length = 0 := hz.2 (by omega)
      have : ¬ -N < 0 := by omega
      simp [a, h0]; omega
    · have h0 : 0 < (dg N.natAbs).length := by
        rcases Nat.eq_zero_or_pos (dg N.natAbs).length with h | h
        · have := hz.1 h; omega
        · exact h
      have : -N < 0 := by omega
      simp [a, h0]; omega

set_option maxRecDepth 100000 in
set_option maxHeartbeats 1000000 in
theorem ceil03_any {w : World} {L : Nat} {s : Bool} {vn vd : Value} {N : Int} {D : Nat} (h1 : FQ w L s vn vd N D) (hL : L ≤ 512) :
    Calls Try.prog 79 #[.agg #[.bool s, vn, vd]] w fun e w' => e = .returned (.tuple #[.int .i64 (okV (upI N (D : Int))), .bool (okB (upI N (D : Int)))]) ∧ Below w.heap.size w w' := by
  have hb0 : Below w.heap.size w (w.alloc (.cells #[.bool s, vn, vd] 61)) := (Below.refl _ w).alloc (Nat.le_refl _) _
  have hfl := floor03_any ((h1.up hb0).turned) hL
  have hq := QB.new w s vn vd
  have c0 := hq.c0
  have c1 := hq.c1
  have c2 := hq.c2
  unfold upI
  rw [okV_neg, okB_neg]
  have hbd := okV_bd (-N / (D : Int))
  obtain ⟨A1, e1, rfl, -⟩ := h1.num.form
  obtain ⟨A2, e2, rfl, -⟩ := h1.den.form
  clear h1
  generalize (dg N.natAbs).length = l1 at *
  generalize (dg D).length = l2 at *
  generalize okV (-N / (D : Int)) = F at *
  generalize okB (-N / (D : Int)) = B at *
  obtain ⟨t, ht⟩ : ∃ t, t = (!s && decide (0 < l1)) := ⟨_, rfl⟩
  rw [← ht] at hfl
  have HFL := Lib.hid hfl
  have HB0 := Lib.hid hb0
  have i1 : IntKind.i64.wrap (-F) = -F := IntWalk.i64_in _ (by omega)
  clear hfl hq hb0 hbd
  have hfin : ∀ w2, Below (w.alloc (.cells #[.bool s, .slice A1 l1 e1, .slice A2 l2 e2] 61)).heap.size (w.alloc (.cells #[.bool s, .slice A1 l1 e1, .slice A2 l2 e2] 61)) w2 → Below w.heap.size w w2 := fun w2 h => HB0.out.trans (h.mono HB0.out.size)
  have HFIN := Lib.hid hfin
  clear hfin
  cases s
  · obtain rfl : t = decide (0 < l1) := by rw [ht]; simp
    clear ht
    go_enter Try.func79, Try.ntmps79
    go_wp2_with fail
    refine HFL.out.mono ?_
    rintro e w2 ⟨he, hb2⟩
    subst he
    go_wp2_with fail
    go_ret2
    exact ⟨rfl, HFIN.out _ hb2⟩
  · obtain rfl : t = false := by rw [ht]; simp
    clear ht
    go_enter Try.func79, Try.ntmps79
    go_wp2_with fail
    refine HFL.out.mono ?_
    rintro e w2 ⟨he, hb2⟩
    subst he
    go_wp2_with fail
    go_ret2
    exact ⟨rfl, HFIN.out _ hb2⟩

/-- A fraction alone. -/
def FRet (w : World) (L : Nat) (P : Int → Nat → Prop) (e : Ending) (w' : World) : Prop :=
  ∃ (s : Bool) (A : Option Addr) (n c : Nat) (B : Option Addr) (m d : Nat) (N : Int) (D : Nat), e = .returned (.agg #[.bool s, .slice A n c, .slice B m d]) ∧ FQ w' L s (.slice A n c) (.slice B m d) N D ∧ P N D ∧ Below w.heap.size w w'
theorem of_forms {n : Nat} (hn : n < 18446744073709551616) (w : World) : Calls Try.prog 60 #[.int .u64 (n : Int)] w fun e w' => ∃ A l c, e = .returned (.slice A l c) ∧ Num w' w'.heap.size (.slice A l c) n ∧ Below w.heap.size w w' :=
  (rof_any n hn w).mono fun e w' ⟨v, he, hn, hb, _⟩ => by
    obtain ⟨A, c, rfl, -⟩ := hn.form
    exact ⟨A, _, c, he, hn, hb⟩
theorem len_two {n : Nat} (h : n < 18446744073709551616) : (dg n).length ≤ 2 := dg_le.2 (by have : LB ^ 2 = 18446744073709551616 := rfl; omega)

set_option maxRecDepth 100000 in
set_option maxHeartbeats 1000000 in
theorem Quo03_any (n : Int) (hn : -4611686018427387904 ≤ n ∧ n ≤ 4611686018427387904) (w : World) :
    Calls Try.prog 53 #[.int .i64 n] w (FRet w 2 fun N D => N = n ∧ D = 1) := by
  have hb0 : Below w.heap.size w (w.alloc (.cells #[.bool false, .slice none 0 0, .slice none 0 0] 61)) := (Below.refl _ w).alloc (Nat.le_refl _) _
  have hq0 := QB.new w false (.slice none 0 0) (.slice none 0 0)
  have ho := fun W => of_forms (n := n.natAbs) (by omega) W
  have h1 := fun W => of_forms (n := 1) (by omega) W
  have HQ0 := Lib.hid hq0
  have HB0 := Lib.hid hb0
  have HO := Lib.hid ho
  have H1 := Lib.hid h1
  clear hq0 hb0 ho h1
  have HLEN := Lib.hid (len_two (n := n.natAbs) (by omega))
  have HL1 := Lib.hid (len_two (n := 1) (by omega))
  by_cases hneg : n < 0
  · have HNEG := Lib.hid hneg
    have i0 : IntKind.i64.wrap (-n) = -n := IntWalk.i64_in _ (by omega)
    have i2 : IntKind.u64.wrap (-n) = (n.natAbs : Int) := by rw [IntWalk.u64_in _ (by omega)]; omega
    clear hn
    go_enter Try.func53, Try.ntmps53
    go_wp2_with fail
    refine (HO.out _).mono ?_
    rintro e w1 ⟨A, l, c, he, hn1, hb1⟩
    subst he
    have hq1 := HQ0.out.below hb1 HQ0.out.lt
    have hbb1 := HB0.out.trans (hb1.mono HB0.out.size)
    go_wp2_with fail
    refine (H1.out _).mono ?_
    rintro e w2 ⟨B, m, d, he, hn2, hb2⟩
    subst he
    have hq2 := hq1.below hb2 hq1.lt
    have hbb2 := hbb1.trans (hb2.mono hbb1.size)
    have hn1' := hn1.up hb2
    have c0 := hq2.c0
    have c1 := hq2.c1
    have c2 := hq2.c2
    have f0 := hq2.fr 0
    have f1 := hq2.fr 1
    have f2 := hq2.fr 2
    go_wp2_with fail
    change bodyPost _ _ _ Exit.ret _ (wroteQ w2 w.heap.size true (.slice A l c) (.slice B m d))
    have g1 := hq2.write true (.slice A l c) (.slice B m d)
    have g2 : Num (wroteQ w2 w.heap.size true (.slice A l c) (.slice B m d)) w2.heap.size (.slice A l c) n.natAbs := Lim.wroteQ hn1' hq2 true _ _
    have g3 : Num (wroteQ w2 w.heap.size true (.slice A l c) (.slice B m d)) w2.heap.size (.slice B m d) 1 := Lim.wroteQ hn2 hq2 true _ _
    have g4 := wroteQ_below hbb2 (Nat.le_refl _) true (.slice A l c) (.slice B m d)
    have g5 : w2.heap.size ≤ (wroteQ w2 w.heap.size true (.slice A l c) (.slice B m d)).heap.size := by simp [wroteQ, World.setCell]
    generalize wroteQ w2 w.heap.size true (.slice A l c) (.slice B m d) = W9 at g1 g2 g3 g4 g5 ⊢
    have k0 := g1.c0
    have k1 := g1.c1
    have k2 := g1.c2
    refine bodyPost_ret (v := .agg #[.bool true, .slice A l c, .slice B m d]) ?_ rfl ⟨_, A, l, c, B, m, d, n, 1, rfl, ⟨(decide_eq_true HNEG.out).symm, Lim.more g2 g5, Lim.more g3 g5, by omega, Nat.gcd_one_right _, HLEN.out, HL1.out⟩, ⟨rfl, rfl⟩, g4⟩
    simp [results, Try.results53, k0, k1, k2, go_sem]
  · have HNEG := Lib.hid hneg
    have i2 : IntKind.u64.wrap n = (n.natAbs : Int) := by rw [IntWalk.u64_in _ (by omega)]; omega
    clear hn
    go_enter Try.func53, Try.ntmps53
    go_wp2_with fail
    refine (HO.out _).mono ?_
    rintro e w1 ⟨A, l, c, he, hn1, hb1⟩
    subst he
    have hq1 := HQ0.out.below hb1 HQ0.out.lt
    have hbb1 := HB0.out.trans (hb1.mono HB0.out.size)
    go_wp2_with fail
    refine (H1.out _).mono ?_
    rintro e w2 ⟨B, m, d, he, hn2, hb2⟩
    subst he
    have hq2 := hq1.below hb2 hq1.lt
    have hbb2 := hbb1.trans (hb2.mono hbb1.size)
    have hn1' := hn1.up hb2
    have c0 := hq2.c0
    have c1 := hq2.c1
    have c2 := hq2.c2
    have f0 := hq2.fr 0
    have f1 := hq2.fr 1
    have f2 := hq2.fr 2
    go_wp2_with fail
    change bodyPost _ _ _ Exit.ret _ (wroteQ w2 w.heap.size false (.slice A l c) (.slice B m d))
    have g1 := hq2.write false (.slice A l c) (.slice B m d)
    have g2 : Num (wroteQ w2 w.heap.size false (.slice A l c) (.slice B m d)) w2.heap.size (.slice A l c) n.natAbs := Lim.wroteQ hn1' hq2 false _ _
    have g3 : Num (wroteQ w2 w.heap.size false (.slice A l c) (.slice B m d)) w2.heap.size (.slice B m d) 1 := Lim.wroteQ hn2 hq2 false _ _
    have g4 := wroteQ_below hbb2 (Nat.le_refl _) false (.slice A l c) (.slice B m d)
    have g5 : w2.heap.size ≤ (wroteQ w2 w.heap.size false (.slice A l c) (.slice B m d)).heap.size := by simp [wroteQ, World.setCell]
    generalize wroteQ w2 w.heap.size false (.slice A l c) (.slice B m d) = W9 at g1 g2 g3 g4 g5 ⊢
    have k0 := g1.c0
    have k1 := g1.c1
    have k2 := g1.c2
    refine bodyPost_ret (v := .agg #[.bool false, .slice A l c, .slice B m d]) ?_ rfl ⟨_, A, l, c, B, m, d, n, 1, rfl, ⟨(decide_eq_false (by have := HNEG.out; omega)).symm, Lim.more g2 g5, Lim.more g3 g5, by omega, Nat.gcd_one_right _, HLEN.out, HL1.out⟩, ⟨rfl, rfl⟩, g4⟩
    simp [results, Try.results53, k0, k1, k2, go_sem]
end Go.Proofs.Ytmmgbofhbnflkaa
namespace Go.Proofs.Ytmmgbofhbnflkaa
open Go.RowKit

/-- A fraction's values behind a block of its own. -/
theorem FQ.wrote {W : World} {g L : Nat} {s : Bool} {vn vd : Value} {N : Int} {D : Nat} (h : FQ W L s vn vd N D) (hq : QB W g false (.slice none 0 0) (.slice none 0 0)) (s' : Bool) (vn' vd' : Value) : FQ (wroteQ W g s' vn' vd') L s vn vd N D := by
  have g5 : W.heap.size ≤ (wroteQ W g s' vn' vd').heap.size := by simp [wroteQ, World.setCell]
  exact ⟨h.sg, Lim.more (Lim.wroteQ (B := W.heap.size) h.num hq s' vn' vd') g5, Lim.more (Lim.wroteQ (B := W.heap.size) h.den hq s' vn' vd') g5, h.ne, h.co, h.ln, h.ld⟩

set_option maxRecDepth 100000 in
set_option maxHeartbeats 1000000 in
theorem over03_any (num den : Int) (hn : -4611686018427387904 ≤ num ∧ num ≤ 4611686018427387904) (hd : 0 < den ∧ den ≤ 4611686018427387904) (w : World) :
    Calls Try.prog 51 #[.int .i64 num, .int .i64 den] w (FRet w 4 fun N D => N * den = num * (D : Int)) := by
  have hb0 : Below w.heap.size w (w.alloc (.cells #[.bool false, .slice none 0 0, .slice none 0 0] 61)) := (Below.refl _ w).alloc (Nat.le_refl _) _
  have hq0 := QB.new w false (.slice none 0 0) (.slice none 0 0)
  have h1 := fun W => Quo03_any num hn W
  have h2 := fun W => Quo03_any den (by omega) W
  have HQ0 := Lib.hid hq0
  have HB0 := Lib.hid hb0
  have H1 := Lib.hid h1
  have H2 := Lib.hid h2
  have HD := Lib.hid hd
  clear hq0 hb0 h1 h2 hn hd
  go_enter Try.func51, Try.ntmps51
  go_wp2_with fail
  refine (H1.out _).mono ?_
  rintro e w1 ⟨s1, A1, l1, c1, B1, m1, d1, N1, D1, he, hf1, ⟨hN1, hD1⟩, hb1⟩
  subst he
  have hq1 := HQ0.out.below hb1 HQ0.out.lt
  have hbb1 := HB0.out.trans (hb1.mono HB0.out.size)
  have HN1 := Lib.hid hN1
  have HD1 := Lib.hid hD1
  clear hN1 hD1
  go_wp2_with fail
  refine (H2.out _).mono ?_
  rintro e w2 ⟨s2, A2, l2, c2, B2, m2, d2, N2, D2, he, hf2, ⟨hN2, hD2⟩, hb2⟩
  subst he
  have hq2 := hq1.below hb2 hq1.lt
  have hbb2 := hbb1.trans (hb2.mono hbb1.size)
  have hf1' := hf1.up hb2
  have hdv := fdiv hf1' hf2 (by omega) (by rw [hN2]; have := HD.out; omega)
  rw [hN2, hD2, HN1.out, HD1.out] at hdv
  have HDV := Lib.hid hdv
  clear hdv hN2 hD2 hf1 hf1' hf2
  go_wp2_with fail
  refine HDV.out.mono ?_
  rintro e w3 ⟨s3, A3, l3, c3, B3, m3, d3, N3, D3, he, hf3, hP, hb3⟩
  subst he
  have hq3 := hq2.below hb3 hq2.lt
  have hbb3 := hbb2.trans (hb3.mono hbb2.size)
  have hPP : N3 * den = num * (D3 : Int) := by
    have h := hP
    have hd := HD.out
    have e1 : ((1 * den.natAbs : Nat) : Int) = den := by omega
    rw [e1] at h
    have e2 : sgI (decide (den < 0)) 1 = 1 := by rw [decide_eq_false (by omega)]; rfl
    rw [e2, Int.mul_one] at h
    exact h
  have HPP := Lib.hid hPP
  clear hP hPP
  have hb4 : Below w3.heap.size w3 (w3.alloc (.cells #[.bool s3, .slice A3 l3 c3, .slice B3 m3 d3] 61)) := (Below.refl _ _).alloc (Nat.le_refl _) _
  have hq4 := hq3.below hb4 hq3.lt
  have hbb4 := hbb3.trans (hb4.mono hbb3.size)
  have hf4 := hf3.up hb4
  have hloc := QB.new w3 s3 (.slice A3 l3 c3) (.slice B3 m3 d3)
  obtain ⟨W4, hW4⟩ : ∃ W4, W4 = w3.alloc (.cells #[.bool s3, .slice A3 l3 c3, .slice B3 m3 d3] 61) := ⟨_, rfl⟩
  rw [← hW4] at hq4 hbb4 hf4 hloc
  have f0 := hq4.fr 0
  have f1 := hq4.fr 1
  have f2 := hq4.fr 2
  have x0 := hq4.c0
  have x1 := hq4.c1
  have x2 := hq4.c2
  have y0 := hloc.c0
  have y1 := hloc.c1
  have y2 := hloc.c2
  subst hW4
  go_wp2_with fail
  change bodyPost _ _ _ Exit.ret _ (wroteQ (w3.alloc (.cells #[.bool s3, .slice A3 l3 c3, .slice B3 m3 d3] 61)) w.heap.size s3 (.slice A3 l3 c3) (.slice B3 m3 d3))
  have g1 := hq4.write s3 (.slice A3 l3 c3) (.slice B3 m3 d3)
  have g2 := hf4.wrote hq4 s3 (.slice A3 l3 c3) (.slice B3 m3 d3)
  have g4 := wroteQ_below hbb4 (Nat.le_refl _) s3 (.slice A3 l3 c3) (.slice B3 m3 d3)
  generalize wroteQ (w3.alloc (.cells #[.bool s3, .slice A3 l3 c3, .slice B3 m3 d3] 61)) w.heap.size s3 (.slice A3 l3 c3) (.slice B3 m3 d3) = W9 at g1 g2 g4 ⊢
  have k0 := g1.c0
  have k1 := g1.c1
  have k2 := g1.c2
  refine bodyPost_ret (v := .agg #[.bool s3, .slice A3 l3 c3, .slice B3 m3 d3]) ?_ rfl ⟨s3, A3, l3, c3, B3, m3, d3, N3, D3, rfl, g2, HPP.out, g4⟩
  simp [results, Try.results51, k0, k1, k2, go_sem]
end Go.Proofs.Ytmmgbofhbnflkaa
