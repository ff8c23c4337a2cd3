import Derived.Test.YtlmcafcebidliaaDoorTPB
namespace Go.Proofs.YtlmcafcebidliaaDoor.Tp
open Go.RowKit

/-! Intervals between classes. -/
def dfV (D : Int) (F : Nat → V6) (wf i j : Nat) : V6 := (PS (FF D F wf) j).add (V6.scl (-1) (PS (FF D F wf) i))
theorem dfV_neg (D : Int) (F : Nat → V6) (wf i j : Nat) : V6.scl (-1) (dfV D F wf i j) = dfV D F wf j i := by
  unfold dfV V6.scl V6.add; apply V6.eq <;> simp only <;> grind
theorem dfV_le {D : Int} {F : Nat → V6} {wf i j : Nat} (h : i ≤ j) : dfV D F wf i j = PS (fun t => FF D F wf (i + t)) (j - i) := by
  have e := PS_add (FF D F wf) i (j - i)
  rw [show i + (j - i) = j by omega] at e
  unfold dfV
  rw [e]
  unfold V6.scl V6.add; apply V6.eq <;> simp only <;> grind
theorem dfV_mid {D : Int} {F : Nat → V6} {wf i j : Nat} (hw : wf < 12) (h1 : i ≤ wf) (h2 : wf < j) (hj : j ≤ 12) : dfV D F wf i j = (octV (7 * D)).add (V6.scl (-1) ((PS (fun t => F (j + t)) (12 - j)).add (PS F i))) := by
  unfold dfV
  rw [FF_tail hw hj]
  have e1 : PS (fun t => FF D F wf (j + t)) (12 - j) = PS (fun t => F (j + t)) (12 - j) := PS_congr fun t _ => FF_ne (by omega)
  have e2 : PS (FF D F wf) i = PS F i := PS_congr fun t _ => FF_ne (by omega)
  rw [e1, e2]
  unfold V6.scl V6.add; apply V6.eq <;> simp only <;> grind
theorem dfV_out {D : Int} {F : Nat → V6} {wf i j : Nat} (h : i ≤ j) (hw : wf < i ∨ j ≤ wf) : dfV D F wf i j = PS (fun t => F (i + t)) (j - i) := by
  rw [dfV_le h]
  exact PS_congr fun t _ => FF_ne (by omega)
theorem df_bd {D : Int} {F : Nat → V6} {wf i j : Nat} (h : Circ D F wf) (hi : i ≤ 12) (hj : j ≤ 12) : (dfV D F wf i j).bd 57000 := by
  have key : ∀ i j : Nat, i ≤ j → j ≤ 12 → (dfV D F wf i j).bd 57000 := by
    intro i j hij hj
    by_cases hw : wf < i ∨ j ≤ wf
    · rw [dfV_out hij hw]
      have hb : (PS (fun t => F (i + t)) (j - i)).bd ((j - i : Nat) * 4680) := PS_bd fun t ht => h.bd _ (by omega)
      exact hb.mono (by omega)
    · rw [dfV_mid h.w (by omega) (by omega) hj]
      have hb1 : (PS (fun t => F (j + t)) (12 - j)).bd ((12 - j : Nat) * 4680) := PS_bd fun t ht => h.bd _ (by omega)
      have hb2 : (PS F i).bd (i * 4680) := PS_bd fun t ht => h.bd _ (by omega)
      have hd1 := h.d1
      have hd2 := h.d2
      exact ((octV_bd (x := 7 * D) (M := 840) (by omega) (by omega)).add (hb1.add hb2).neg).mono (by omega)
  rcases Nat.le_total i j with h1 | h1
  · exact key i j h1 hj
  · rw [← dfV_neg]; exact (key j i h1 hi).neg
/-- An interval between two places of the circle. -/
def BetIs (D : Int) (F : Nat → V6) (wf i j : Nat) (r : Rt) : Prop := ∃ k, FlIs (dfV D F wf i j) 1 D k ∧ -25 ≤ k ∧ k ≤ 25 ∧ r = lowR ((dfV D F wf i j).two (-(k * D))) D
theorem df_two_bd {D : Int} {F : Nat → V6} {wf i j : Nat} {k : Int} (h : Circ D F wf) (hi : i ≤ 12) (hj : j ≤ 12) (k1 : -100 ≤ k) (k2 : k ≤ 100) : ((dfV D F wf i j).two (-(k * D))).bd 70000 := by
  have h2 := mulD_bd h.d1 h.d2 k1 k2
  exact ((df_bd h hi hj).two (N := 12000) (by omega) (by omega)).mono (by omega)
theorem bet_of {D : Int} {F : Nat → V6} {wf i j : Nat} {a b r : Rt} (h : Circ D F wf) (hi : i ≤ 12) (hj : j ≤ 12) (ha : NoteIs D F wf i a) (hb : NoteIs D F wf j b) (hf : FoldIs (bothW b a (-1)).1 r) : BetIs D F wf i j r := by
  obtain ⟨ki, hki, rfl⟩ := ha
  obtain ⟨kj, hkj, rfl⟩ := hb
  have hd1 := h.d1
  have hd2 := h.d2
  have bi := h.sum_k hi hki
  have bj := h.sum_k hj hkj
  have e : ((PS (FF D F wf) j).two (-(kj * D))).add (V6.scl (-1) ((PS (FF D F wf) i).two (-(ki * D)))) = (dfV D F wf i j).two (-((kj - ki) * D)) := by
    unfold dfV V6.two V6.add V6.scl; apply V6.eq <;> simp only; grind
  have hbd := df_two_bd (k := kj - ki) h hi hj (by omega) (by omega)
  rw [both_low hd1 (by omega) ((h.note_bd hj hj hkj).mono (by omega)) ((h.note_bd hi hi hki).mono (by omega)) (by rw [e]; exact hbd.mono (by omega)), e] at hf
  obtain ⟨m, hm, hr⟩ := hf (lowR_ok hd1 (by omega) (hbd.mono (by omega)))
  rw [low_FlIs (by omega), FlIs.shift] at hm
  have bt : Bt D (dfV D F wf i j) (kj - (ki + 1)) (kj + 1 - ki) := by
    have h1 := (hkj.bt).add (hki.bt).neg
    have e1 : kj + -(ki + 1) = kj - (ki + 1) := by omega
    have e2 : kj + 1 + -ki = kj + 1 - ki := by omega
    rw [e1, e2] at h1
    exact h1
  have bk := bt.fl (by omega) hm
  have e2 : foR (lowR ((dfV D F wf i j).two (-((kj - ki) * D))) D) m = lowR ((dfV D F wf i j).two (-((kj - ki + m) * D))) D := by
    unfold foR
    rw [low_fold (by omega), V6.two_two]
    congr 2
    grind
  refine ⟨kj - ki + m, hm, by omega, by omega, ?_⟩
  rw [← e2]
  refine hr ?_
  rw [e2]
  exact (lowR_ok hd1 (by omega) ((df_two_bd (k := kj - ki + m) h hi hj (by omega) (by omega)).mono (by omega))).fit
/-! No two classes have the same note. -/
theorem Sg_zero {v : V6} (h : Sg v = 0) : v = octV 0 := by
  rw [← sgn_nz] at h
  have hp : (v.zl).Pairwise fun x y => Nat.gcd x.1 y.1 = 1 := by
    show List.Pairwise _ [(2, v.a), (3, v.b), (5, v.c), (7, v.d), (11, v.e), (13, v.f)]
    simp only [List.pairwise_cons, List.mem_cons, List.not_mem_nil, or_false, forall_eq_or_imp, forall_eq, List.Pairwise.nil, and_true, false_imp_iff, forall_const]
    decide
  have ha : Apart (nz v.zl) := by
    refine ⟨fun x hx => ?_, hp.sublist List.filter_sublist⟩
    have h1 := (zl_mem hx).1.1
    have h2 := (List.mem_filter.1 hx).2
    exact ⟨h1, by simpa using h2⟩
  have h0 := (apart_one ha).1 h
  have hall : ∀ x ∈ v.zl, x.2 = 0 := fun x hx => by
    rcases Classical.em (x.2 = 0) with h1 | h1
    · exact h1
    · have : x ∈ nz v.zl := List.mem_filter.2 ⟨hx, by simpa using h1⟩
      rw [h0] at this
      cases this
  have e : ∀ x ∈ [(2, v.a), (3, v.b), (5, v.c), (7, v.d), (11, v.e), (13, v.f)], x.2 = 0 := hall
  simp only [List.mem_cons, List.not_mem_nil, or_false, forall_eq_or_imp, forall_eq] at e
  exact V6.eq e.1 e.2.1 e.2.2.1 e.2.2.2.1 e.2.2.2.2.1 e.2.2.2.2.2
def QS (q : Nat → Int) : Nat → Int
  | 0 => 0
  | n + 1 => QS q n + q n
theorem PS_fv (D : Int) (c : V6) (q : Nat → Int) : ∀ n : Nat, PS (fun t => fvV D c (q t)) n = fvV (n * D) c (QS q n)
  | 0 => by
    show octV 0 = _
    unfold octV fvV V6.scl V6.add w32 QS; apply V6.eq <;> simp
  | n + 1 => by
    show (PS (fun t => fvV D c (q t)) n).add (fvV D c (q n)) = _
    rw [PS_fv D c q n, show QS q (n + 1) = QS q n + q n from rfl]
    generalize QS q n = Q
    unfold fvV V6.scl V6.add w32
    push_cast
    apply V6.eq <;> simp only <;> grind
theorem fv_oct {D Q k : Int} {n : Nat} {sy : Bool} (hD : 1 ≤ D) (h1 : 1 ≤ n) (h2 : n ≤ 11) (h : fvV (n * D) (cmV sy) Q = octV (k * D)) : False := by
  unfold fvV octV V6.scl V6.add w32 at h
  injection h with ea eb ec _ _ _
  rcases cmV_cases sy with e | e
  · rw [e] at ea eb ec
    simp only at ea eb ec
    have hQ : Q = 0 := by omega
    subst hQ
    have h0 : (n : Int) * D = 0 := by omega
    rcases Int.mul_eq_zero.1 h0 with h | h <;> omega
  · rw [e] at ea eb ec
    simp only at ea eb ec
    obtain ⟨x, hx⟩ : ∃ x, x = (n : Int) * D := ⟨_, rfl⟩
    obtain ⟨y, hy⟩ : ∃ y, y = k * D := ⟨_, rfl⟩
    rw [← hx, ← hy] at ea
    rw [← hx] at eb
    have h3 : 7 * x = 12 * y := by omega
    have h4 : (7 * (n : Int) - 12 * k) * D = 0 := by
      rw [Int.sub_mul, Int.mul_assoc, Int.mul_assoc, ← hx, ← hy]; omega
    rcases Int.mul_eq_zero.1 h4 with h | h <;> omega
theorem df_oct {T : Tm} {D k : Int} {wn i j : Nat} (hv : Vd T D wn) (hi : i < 12) (hj : j < 12) (hn : i ≠ j) (h : dfV D (fN T D) wn i j = octV (k * D)) : False := by
  have key : ∀ (i j : Nat) (k : Int), i < j → j < 12 → dfV D (fN T D) wn i j = octV (k * D) → False := by
    intro i j k hij hj h
    have hd := hv.d1
    by_cases hw : wn < i ∨ j ≤ wn
    · rw [dfV_out (by omega) hw] at h
      have e := PS_fv D (cmV T.sy) (fun t => qN T D (i + t)) (j - i)
      have e' : PS (fun t => fN T D (i + t)) (j - i) = fvV ((j - i : Nat) * D) (cmV T.sy) (QS (fun t => qN T D (i + t)) (j - i)) := e
      rw [e'] at h
      exact fv_oct hd (by omega) (by omega) h
    · rw [dfV_mid hv.w (by omega) (by omega) (by omega)] at h
      have e1 : PS (fun t => fN T D (j + t)) (12 - j) = fvV ((12 - j : Nat) * D) (cmV T.sy) (QS (fun t => qN T D (j + t)) (12 - j)) := PS_fv D (cmV T.sy) (fun t => qN T D (j + t)) (12 - j)
      have e2 : PS (fN T D) i = fvV (i * D) (cmV T.sy) (QS (qN T D) i) := PS_fv D (cmV T.sy) (qN T D) i
      rw [e1, e2] at h
      generalize QS (fun t => qN T D (j + t)) (12 - j) = Q1 at h
      generalize QS (qN T D) i = Q2 at h
      refine fv_oct (n := 12 - j + i) (Q := Q1 + Q2) (k := 7 - k) (sy := T.sy) hd (by omega) (by omega) ?_
      have hcast : ((12 - j + i : Nat) : Int) = ((12 - j : Nat) : Int) + (i : Int) := by omega
      rw [hcast]
      generalize ((12 - j : Nat) : Int) = n1 at *
      have a1 := congrArg V6.a h
      have a2 := congrArg V6.b h
      have a3 := congrArg V6.c h
      unfold fvV octV V6.scl V6.add w32 at a1 a2 a3
      simp only at a1 a2 a3
      unfold fvV octV V6.scl V6.add w32
      have hcm : (cmV T.sy).d = 0 ∧ (cmV T.sy).e = 0 ∧ (cmV T.sy).f = 0 := by rcases cmV_cases T.sy with e | e <;> rw [e] <;> exact ⟨rfl, rfl, rfl⟩
      apply V6.eq <;> simp only
      · grind
      · grind
      · grind
      · rw [hcm.1]; simp
      · rw [hcm.2.1]; simp
      · rw [hcm.2.2]; simp
  rcases Nat.lt_or_gt_of_ne hn with h1 | h1
  · exact key i j k h1 hj h
  · refine key j i (-k) h1 hi ?_
    rw [← dfV_neg, h]
    unfold octV V6.scl
    apply V6.eq <;> simp only <;> grind
end Go.Proofs.YtlmcafcebidliaaDoor.Tp
namespace Go.Proofs.YtlmcafcebidliaaDoor.Tp
open Go.RowKit

/-! Intervals add up. -/
theorem dfV_add (D : Int) (F : Nat → V6) (wf i j l : Nat) : (dfV D F wf i j).add (dfV D F wf j l) = dfV D F wf i l := by
  unfold dfV V6.scl V6.add; apply V6.eq <;> simp only <;> grind
theorem dfV_self (D : Int) (F : Nat → V6) (wf i : Nat) : dfV D F wf i i = octV 0 := by
  unfold dfV octV V6.scl V6.add; apply V6.eq <;> simp only <;> grind
theorem two_add (u v : V6) (x y : Int) : (u.two x).add (V6.scl 1 (v.two y)) = (u.add v).two (x + y) := by
  unfold V6.two V6.add V6.scl; apply V6.eq <;> simp only <;> grind
theorem bet_mul {D : Int} {F : Nat → V6} {wf i j l : Nat} {x y : Rt} (h : Circ D F wf) (hi : i ≤ 12) (hj : j ≤ 12) (hl : l ≤ 12) (hx : BetIs D F wf i j x) (hy : BetIs D F wf j l y) :
    ∃ kx ky, FlIs (dfV D F wf i j) 1 D kx ∧ FlIs (dfV D F wf j l) 1 D ky ∧ -50 ≤ kx + ky ∧ kx + ky ≤ 50 ∧ bothW x y 1 = (lowR ((dfV D F wf i l).two (-((kx + ky) * D))) D, 0) := by
  obtain ⟨kx, fx, x1, x2, rfl⟩ := hx
  obtain ⟨ky, fy, y1, y2, rfl⟩ := hy
  have hd1 := h.d1
  have hd2 := h.d2
  refine ⟨kx, ky, fx, fy, by omega, by omega, ?_⟩
  have e : ((dfV D F wf i j).two (-(kx * D))).add (V6.scl 1 ((dfV D F wf j l).two (-(ky * D)))) = (dfV D F wf i l).two (-((kx + ky) * D)) := by
    rw [two_add, dfV_add]; congr 1; grind
  rw [both_low hd1 (by omega) ((df_two_bd h hi hj (by omega) (by omega)).mono (by omega)) ((df_two_bd h hj hl (by omega) (by omega)).mono (by omega)) (by rw [e]; exact (df_two_bd h hi hl (by omega) (by omega)).mono (by omega)), e]
theorem fl_add {D : Int} {u v z : V6} {kx ky kz : Int} (hD : 0 < D) (hz : u.add v = z) (h1 : FlIs u 1 D kx) (h2 : FlIs v 1 D ky) (h3 : FlIs z 1 D kz) : kz = kx + ky ∨ kz = kx + ky + 1 := by
  refine (FlIs.mul (D := D) hD hD hD hD ?_ rfl h1 h2 h3).1
  subst hz
  unfold V6.scl V6.add; apply V6.eq <;> simp only <;> grind
theorem fl_zero {D : Int} (hD : 0 < D) : FlIs (octV 0) 1 D 0 := by
  constructor
  · show 0 ≤ Sg ((V6.scl 1 (octV 0)).two (-(0 * D)))
    rw [V6.scl_one, Int.zero_mul]; exact Sg_oct_nn (Int.le_refl 0)
  · show Sg ((V6.scl 1 (octV 0)).two (-((0 + 1) * D))) < 0
    rw [V6.scl_one]
    have e : (octV 0).two (-((0 + 1) * D)) = octV (-D) := by unfold octV V6.two; simp
    rw [e]; exact Sg_oct_neg hD
theorem adds_sum {D : Int} {F : Nat → V6} {wf i j l : Nat} {x y z : Rt} (h : Circ D F wf) (hi : i ≤ 12) (hj : j ≤ 12) (hl : l ≤ 12) (hx : BetIs D F wf i j x) (hy : BetIs D F wf j l y) (hz : BetIs D F wf i l z) :
    (bothW x y 1).2 = 0 ∧ (bothW z (ofW 2 1).1 1).2 = 0 ∧ ((bothW x y 1).1 = z ∨ (bothW x y 1).1 = (bothW z (ofW 2 1).1 1).1) := by
  obtain ⟨kx, ky, fx, fy, -, -, e⟩ := bet_mul h hi hj hl hx hy
  obtain ⟨kz, fz, z1, z2, rfl⟩ := hz
  have hd1 := h.d1
  have hd2 := h.d2
  have hk := fl_add (by omega) (dfV_add D F wf i j l) fx fy fz
  have e2 : ((dfV D F wf i l).two (-(kz * D))).add (V6.scl 1 (V6.scl D (octV 1))) = (dfV D F wf i l).two (-((kz - 1) * D)) := by
    unfold octV V6.two V6.add V6.scl; apply V6.eq <;> simp only <;> grind
  have ob : (V6.scl D (octV 1)).bd 100000 := by unfold V6.bd V6.scl octV; simp only; omega
  have e3 : bothW (lowR ((dfV D F wf i l).two (-(kz * D))) D) (ofW 2 1).1 1 = (lowR ((dfV D F wf i l).two (-((kz - 1) * D))) D, 0) := by
    rw [of_low D (by omega) of_21, both_low hd1 (by omega) ((df_two_bd h hi hl (by omega) (by omega)).mono (by omega)) ob (by rw [e2]; exact (df_two_bd h hi hl (by omega) (by omega)).mono (by omega)), e2]
  rw [e, e3]
  refine ⟨rfl, rfl, ?_⟩
  rcases hk with hk | hk
  · exact .inl (by rw [hk])
  · exact .inr (by rw [hk, show kx + ky + 1 - 1 = kx + ky by omega])
theorem bet_self {D : Int} {F : Nat → V6} {wf i : Nat} {x : Rt} (h : Circ D F wf) (hx : BetIs D F wf i i x) : x = (ofW 1 1).1 := by
  obtain ⟨k, fk, -, -, rfl⟩ := hx
  have hd1 := h.d1
  rw [dfV_self] at fk ⊢
  have := fk.unique (by omega) (fl_zero (by omega))
  subst this
  rw [of_low D (by omega) of_11, Int.zero_mul, Int.neg_zero, V6.two_zero]
  congr 1
  unfold V6.scl octV; simp
theorem bet_back {T : Tm} {D : Int} {wn i j : Nat} {x y : Rt} (hv : Vd T D wn) (hi : i < 12) (hj : j < 12) (hx : BetIs D (fN T D) wn i j x) (hy : BetIs D (fN T D) wn j i y) :
    (bothW x y 1).2 = 0 ∧ (i ≠ j → (bothW x y 1).1 = (ofW 2 1).1) := by
  have h := hv.circ
  have hd1 := h.d1
  obtain ⟨kx, ky, fx, fy, -, -, e⟩ := bet_mul h (show i ≤ 12 by omega) (show j ≤ 12 by omega) (show i ≤ 12 by omega) hx hy
  rw [e]
  refine ⟨rfl, fun hn => ?_⟩
  rw [dfV_self]
  have hk := fl_add (D := D) (by omega) (dfV_add D (fN T D) wn i j i) fx fy (by rw [dfV_self]; exact fl_zero (by omega))
  have hk1 : kx + ky = -1 := by
    rcases hk with hk | hk
    · exfalso
      obtain rfl : ky = -kx := by omega
      have s1 : 0 ≤ Sg ((dfV D (fN T D) wn i j).two (-(kx * D))) := by
        have h1 := fx.1; unfold Fl at h1; rw [V6.scl_one] at h1; exact h1
      have s2 : 0 ≤ Sg ((dfV D (fN T D) wn j i).two (-(-kx * D))) := by
        have h1 := fy.1; unfold Fl at h1; rw [V6.scl_one] at h1; exact h1
      have e2 : (dfV D (fN T D) wn j i).two (-(-kx * D)) = V6.scl (-1) ((dfV D (fN T D) wn i j).two (-(kx * D))) := by
        rw [← dfV_neg]
        unfold V6.two V6.scl; apply V6.eq <;> simp only; grind
      rw [e2, Sg_neg] at s2
      have s0 := Sg_zero (show Sg ((dfV D (fN T D) wn i j).two (-(kx * D))) = 0 by omega)
      refine df_oct hv hi hj hn (k := kx) ?_
      have a1 := congrArg V6.a s0
      have a2 := congrArg V6.b s0
      have a3 := congrArg V6.c s0
      have a4 := congrArg V6.d s0
      have a5 := congrArg V6.e s0
      have a6 := congrArg V6.f s0
      exact V6.eq (by show (dfV D (fN T D) wn i j).a = kx * D; have : (dfV D (fN T D) wn i j).a + -(kx * D) = 0 := a1; omega) a2 a3 a4 a5 a6
    · omega
  rw [hk1, of_low D (by omega) of_21]
  show lowR ((octV 0).two (-(-1 * D))) D = lowR (V6.scl D (octV 1)) D
  congr 1
  unfold V6.two V6.scl octV; apply V6.eq <;> simp
end Go.Proofs.YtlmcafcebidliaaDoor.Tp
