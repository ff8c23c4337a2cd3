import Derived.Test.YtkoghdgfllichaaDoorTA10
namespace Go.Proofs.YtkoghdgfllichaaDoor.Tp
open Go.RowKit

theorem ofW_of {num den r a0 a1 a2 a3 a4 a5 b0 b1 b2 b3 b4 b5 : Nat} (hn : 1 ≤ num ∧ num ≤ 1000000000000) (hd : 1 ≤ den ∧ den ≤ 1000000000000) (h1 : sts ps6 num = (r, [a0, a1, a2, a3, a4, a5])) (h2 : sts ps6 den = (r, [b0, b1, b2, b3, b4, b5])) :
    ofW (num : Int) (den : Int) = (⟨⟨(a0 : Int) - b0, (a1 : Int) - b1, (a2 : Int) - b2, (a3 : Int) - b3, (a4 : Int) - b4, (a5 : Int) - b5⟩, 1⟩, 0) := by
  unfold ofW
  rw [if_pos (by omega), Int.toNat_natCast, Int.toNat_natCast, if_pos (by rw [h1, h2])]
  unfold ofZ
  rw [h1, h2]
  rfl
theorem sts_1 : sts ps6 1 = (1, [0, 0, 0, 0, 0, 0]) := sts6_of (n1 := 1) (n2 := 1) (n3 := 1) (n4 := 1) (n5 := 1) (by decide) (by decide) (by decide) (by decide) (by decide) (by decide) (by decide) (by decide) (by decide) (by decide) (by decide) (by decide)
theorem sts_2 : sts ps6 2 = (1, [1, 0, 0, 0, 0, 0]) := sts6_of (n1 := 1) (n2 := 1) (n3 := 1) (n4 := 1) (n5 := 1) (by decide) (by decide) (by decide) (by decide) (by decide) (by decide) (by decide) (by decide) (by decide) (by decide) (by decide) (by decide)
theorem sts_3 : sts ps6 3 = (1, [0, 1, 0, 0, 0, 0]) := sts6_of (n1 := 3) (n2 := 1) (n3 := 1) (n4 := 1) (n5 := 1) (by decide) (by decide) (by decide) (by decide) (by decide) (by decide) (by decide) (by decide) (by decide) (by decide) (by decide) (by decide)
theorem sts_4 : sts ps6 4 = (1, [2, 0, 0, 0, 0, 0]) := sts6_of (n1 := 1) (n2 := 1) (n3 := 1) (n4 := 1) (n5 := 1) (by decide) (by decide) (by decide) (by decide) (by decide) (by decide) (by decide) (by decide) (by decide) (by decide) (by decide) (by decide)
theorem sts_5 : sts ps6 5 = (1, [0, 0, 1, 0, 0, 0]) := sts6_of (n1 := 5) (n2 := 5) (n3 := 1) (n4 := 1) (n5 := 1) (by decide) (by decide) (by decide) (by decide) (by decide) (by decide) (by decide) (by decide) (by decide) (by decide) (by decide) (by decide)
theorem sts_128 : sts ps6 128 = (1, [7, 0, 0, 0, 0, 0]) := sts6_of (n1 := 1) (n2 := 1) (n3 := 1) (n4 := 1) (n5 := 1) (by decide) (by decide) (by decide) (by decide) (by decide) (by decide) (by decide) (by decide) (by decide) (by decide) (by decide) (by decide)
theorem sts_81 : sts ps6 81 = (1, [0, 4, 0, 0, 0, 0]) := sts6_of (n1 := 81) (n2 := 1) (n3 := 1) (n4 := 1) (n5 := 1) (by decide) (by decide) (by decide) (by decide) (by decide) (by decide) (by decide) (by decide) (by decide) (by decide) (by decide) (by decide)
theorem sts_80 : sts ps6 80 = (1, [4, 0, 1, 0, 0, 0]) := sts6_of (n1 := 5) (n2 := 5) (n3 := 1) (n4 := 1) (n5 := 1) (by decide) (by decide) (by decide) (by decide) (by decide) (by decide) (by decide) (by decide) (by decide) (by decide) (by decide) (by decide)
theorem sts_a : sts ps6 531441 = (1, [0, 12, 0, 0, 0, 0]) := sts6_of (n1 := 531441) (n2 := 1) (n3 := 1) (n4 := 1) (n5 := 1) (by decide) (by decide) (by decide) (by decide) (by decide) (by decide) (by decide) (by decide) (by decide) (by decide) (by decide) (by decide)
theorem sts_b : sts ps6 524288 = (1, [19, 0, 0, 0, 0, 0]) := sts6_of (n1 := 1) (n2 := 1) (n3 := 1) (n4 := 1) (n5 := 1) (by decide) (by decide) (by decide) (by decide) (by decide) (by decide) (by decide) (by decide) (by decide) (by decide) (by decide) (by decide)
def w32 : V6 := ⟨-1, 1, 0, 0, 0, 0⟩
def cmV (sy : Bool) : V6 := if sy = true then ⟨-4, 4, -1, 0, 0, 0⟩ else ⟨-19, 12, 0, 0, 0, 0⟩
theorem low_one {v : V6} : lowR v 1 = ⟨v, 1⟩ := by
  have l := lowR_val (v := v) (d := 1)
  have q := quo_back (v := v) (d := 1)
  obtain ⟨g, p⟩ := quo_low (v := v) (d := 1) (by omega)
  have e : (lowR v 1).d = 1 := by
    show (1 : Int).tdiv (v.gs 1) = 1
    have hp := gs_pos (v := v) (d := 1) (by omega)
    have h2 := q.2
    rcases Int.lt_or_le 1 (v.gs 1) with h | h
    · rw [Int.tdiv_eq_zero_of_lt (by omega) h] at h2; omega
    · obtain h3 : v.gs 1 = 1 := by omega
      rw [h3]; rfl
  have p' : 0 < (lowR v 1).d := p
  rw [e] at l
  exact Rt.eq (V6.scl_inj (k := 1) (by omega) (by rw [l])) e
theorem of_low {v : V6} {r : Rt} (D : Int) (hD : 0 < D) (h : r = ⟨v, 1⟩) : r = lowR (V6.scl D v) D := by
  have e := low_scl (v := v) (D := 1) (k := D) (by omega) hD
  rw [Int.mul_one] at e
  rw [h, e, low_one]
theorem of_32 : (ofW 3 2).1 = ⟨w32, 1⟩ := by rw [show ofW 3 2 = _ from ofW_of (num := 3) (den := 2) (by omega) (by omega) sts_3 sts_2]; rfl
theorem of_54 : (ofW 5 4).1 = ⟨⟨-2, 0, 1, 0, 0, 0⟩, 1⟩ := by rw [show ofW 5 4 = _ from ofW_of (num := 5) (den := 4) (by omega) (by omega) sts_5 sts_4]; rfl
theorem of_11 : (ofW 1 1).1 = ⟨octV 0, 1⟩ := by rw [show ofW 1 1 = _ from ofW_of (num := 1) (den := 1) (by omega) (by omega) sts_1 sts_1]; rfl
theorem of_21 : (ofW 2 1).1 = ⟨octV 1, 1⟩ := by rw [show ofW 2 1 = _ from ofW_of (num := 2) (den := 1) (by omega) (by omega) sts_2 sts_1]; rfl
theorem of_128 : (ofW 128 1).1 = ⟨octV 7, 1⟩ := by rw [show ofW 128 1 = _ from ofW_of (num := 128) (den := 1) (by omega) (by omega) sts_128 sts_1]; rfl
theorem cmW_low (T : Tm) : cmW T = ⟨cmV T.sy, 1⟩ := by
  unfold cmW cmV
  cases T.sy
  · show (ofW 531441 524288).1 = _
    rw [show ofW 531441 524288 = _ from ofW_of (num := 531441) (den := 524288) (by omega) (by omega) sts_a sts_b]; rfl
  · show (ofW 81 80).1 = _
    rw [show ofW 81 80 = _ from ofW_of (num := 81) (den := 80) (by omega) (by omega) sts_81 sts_80]; rfl
/-- A fifth over the denominator D, narrower by q / D of the comma. -/
def fvV (D : Int) (c : V6) (q : Int) : V6 := (V6.scl D w32).add (V6.scl (-1) (V6.scl q c))
theorem cmV_cases (sy : Bool) : cmV sy = ⟨-4, 4, -1, 0, 0, 0⟩ ∨ cmV sy = ⟨-19, 12, 0, 0, 0, 0⟩ := by
  cases sy
  · exact .inr rfl
  · exact .inl rfl
theorem fvV_bd {D q : Int} {sy : Bool} (h1 : 1 ≤ D) (h2 : D ≤ 120) (hq : -(2 * D) ≤ q ∧ q ≤ 2 * D) : (fvV D (cmV sy) q).bd 4680 := by
  unfold fvV V6.bd V6.add V6.scl w32
  rcases cmV_cases sy with e | e <;> rw [e] <;> simp only <;> omega
theorem Sg_up (v : V6) (h : dnP v.zl ≤ upP v.zl) : 0 ≤ Sg v := sgn_ge.2 h
theorem fvV_bt {D q : Int} {sy : Bool} (h1 : 1 ≤ D) (hq : -(2 * D) ≤ q ∧ q ≤ 2 * D) : Bt D (fvV D (cmV sy) q) 0 1 := by
  have two : ∀ v : V6, 0 ≤ Sg (V6.scl 2 v) → 0 ≤ Sg v := fun v h => by rw [Sg_scl 2 v (by omega)] at h; exact h
  have k1 : 0 ≤ Sg w32 := Sg_up _ (by decide)
  have k2 : 0 ≤ Sg (cmV sy) := by rcases cmV_cases sy with e | e <;> rw [e] <;> exact Sg_up _ (by decide)
  have k3 : 0 ≤ Sg (w32.add (V6.scl (-2) (cmV sy))) := by rcases cmV_cases sy with e | e <;> rw [e] <;> exact Sg_up _ (by decide)
  have k4 : 0 ≤ Sg ((octV 1).add (V6.scl (-1) w32)) := Sg_up _ (by decide)
  have k5 : 0 ≤ Sg (((octV 1).add (V6.scl (-1) w32)).add (V6.scl (-2) (cmV sy))) := by rcases cmV_cases sy with e | e <;> rw [e] <;> exact Sg_up _ (by decide)
  generalize cmV sy = c at *
  have e1 : ∀ v : V6, v.two (-(0 * D)) = v := fun v => by rw [Int.zero_mul, Int.neg_zero, V6.two_zero]
  constructor
  · rw [e1]
    apply two
    rcases Int.lt_or_le q 0 with h | h
    · have h3 := Sg_add_ge (Sg_scl_nn (k := 2 * D) (by omega) k1) (Sg_scl_nn (k := -(2 * q)) (by omega) k2)
      have e : V6.scl 2 (fvV D c q) = (V6.scl (2 * D) w32).add (V6.scl (-(2 * q)) c) := by
        unfold fvV V6.scl V6.add w32; apply V6.eq <;> simp only <;> grind
      rw [e]; exact h3
    · have h3 := Sg_add_ge (Sg_scl_nn (k := 2 * D - q) (by omega) k1) (Sg_scl_nn (k := q) (by omega) k3)
      have e : V6.scl 2 (fvV D c q) = (V6.scl (2 * D - q) w32).add (V6.scl q (w32.add (V6.scl (-2) c))) := by
        unfold fvV V6.scl V6.add w32; apply V6.eq <;> simp only <;> grind
      rw [e]; exact h3
  · apply two
    rcases Int.lt_or_le q 0 with h | h
    · have h3 := Sg_add_ge (Sg_scl_nn (k := 2 * D + q) (by omega) k4) (Sg_scl_nn (k := -q) (by omega) k5)
      have e : V6.scl 2 ((V6.scl (-1) (fvV D c q)).two (1 * D)) = (V6.scl (2 * D + q) ((octV 1).add (V6.scl (-1) w32))).add (V6.scl (-q) (((octV 1).add (V6.scl (-1) w32)).add (V6.scl (-2) c))) := by
        unfold fvV V6.scl V6.add w32 octV V6.two; apply V6.eq <;> simp only <;> grind
      rw [e]; exact h3
    · have h3 := Sg_add_ge (Sg_scl_nn (k := 2 * D) (by omega) k4) (Sg_scl_nn (k := 2 * q) (by omega) k2)
      have e : V6.scl 2 ((V6.scl (-1) (fvV D c q)).two (1 * D)) = (V6.scl (2 * D) ((octV 1).add (V6.scl (-1) w32))).add (V6.scl (2 * q) c) := by
        unfold fvV V6.scl V6.add w32 octV V6.two; apply V6.eq <;> simp only <;> grind
      rw [e]; exact h3
end Go.Proofs.YtkoghdgfllichaaDoor.Tp
namespace Go.Proofs.YtkoghdgfllichaaDoor.Tp
open Go.RowKit

theorem lc_dvd {ps : List (Int × Int)} {i : Nat} {p : Int × Int} (h : ps[i]? = some p) : p.2.natAbs ∣ lcL ps := by
  refine Nat.dvd_trans ?_ (lc_take ps (i + 1))
  rw [lc_step h]
  exact Nat.dvd_lcm_right _ _
theorem chk_ok {T : Tm} (h : chkT T = 0) : fitsT T = true ∧ formedT T = true ∧ agreeT T = true := by
  unfold chkT at h
  split at h
  · rename_i h1
    split at h
    · rename_i h2
      split at h
      · rename_i h3
        exact ⟨h1, h2, h3⟩
      · cases h
    · cases h
  · cases h
/-- The numerators over the common denominator. -/
def qN (T : Tm) (D : Int) (i : Nat) : Int := (psN T i).1 * (D / (psN T i).2)
def fN (T : Tm) (D : Int) (i : Nat) : V6 := fvV D (cmV T.sy) (qN T D i)
/-- A valid temperament with the fifth wn left, over the denominator D. -/
structure Vd (T : Tm) (D : Int) (wn : Nat) : Prop where
  wo : T.wo = (wn : Int)
  w : wn < 12
  d1 : 1 ≤ D
  d2 : D ≤ 120
  ps : ∀ i, i < 12 → 1 ≤ (psN T i).2 ∧ (psN T i).2 ≤ 24 ∧ -2 * (psN T i).2 ≤ (psN T i).1 ∧ (psN T i).1 ≤ 2 * (psN T i).2 ∧ (psN T i).2 * (D / (psN T i).2) = D ∧ 1 ≤ D / (psN T i).2
  wz : qN T D wn = 0
theorem psN_at {T : Tm} {i : Nat} {p : Int × Int} (h : T.ps[i]? = some p) : psN T i = p := by unfold psN; rw [List.getD_eq_getElem?_getD, h]; rfl
theorem chk_vd {T : Tm} (hl : T.ps.length = 12) (h : chkT T = 0) : ∃ (D : Int) (wn : Nat), D = ((lcL T.ps : Nat) : Int) ∧ Vd T D wn := by
  obtain ⟨h1, h2, h3⟩ := chk_ok h
  unfold fitsT at h1
  simp only [Bool.and_eq_true, decide_eq_true_eq] at h1
  obtain ⟨h4, h5, h6⟩ := h1
  unfold agreeT at h3
  simp only [decide_eq_true_eq] at h3
  unfold formedT at h2
  simp only [Bool.and_eq_true] at h2
  obtain ⟨-, -, h7⟩ := h2
  have hpos : 0 < lcL T.ps := lc_pos T.ps 1 (by omega) fun p hp => (pOk_iff.1 (List.all_eq_true.1 h4 p hp)).1.1
  refine ⟨((lcL T.ps : Nat) : Int), T.wo.toNat, rfl, by omega, by omega, by omega, by omega, fun i hi => ?_, ?_⟩
  · obtain ⟨p, hp⟩ : ∃ p, T.ps[i]? = some p := ⟨T.ps[i]'(by omega), List.getElem?_eq_getElem _⟩
    rw [psN_at hp]
    obtain ⟨⟨a, b⟩, c, d⟩ := pOk_iff.1 (List.all_eq_true.1 h4 p (List.mem_of_getElem? hp))
    have hd : p.2 ∣ ((lcL T.ps : Nat) : Int) := by
      have := Int.natCast_dvd_natCast.2 (lc_dvd hp)
      rw [Int.natAbs_of_nonneg (by omega)] at this
      exact this
    have e := Int.mul_ediv_cancel' hd
    refine ⟨a, b, c, d, e, ?_⟩
    rcases Int.lt_or_le 0 (((lcL T.ps : Nat) : Int) / p.2) with h0 | h0
    · omega
    · exfalso
      have h1 : p.2 * (((lcL T.ps : Nat) : Int) / p.2) ≤ p.2 * 0 := Int.mul_le_mul_of_nonneg_left h0 (by omega)
      omega
  · unfold zB woP at h7
    simp only [Bool.and_eq_true, beq_iff_eq] at h7
    have hz : (psN T T.wo.toNat).1 = 0 := by
      obtain ⟨p, hp⟩ : ∃ p, T.ps[T.wo.toNat]? = some p := ⟨T.ps[T.wo.toNat]'(by omega), List.getElem?_eq_getElem _⟩
      rw [psN_at hp]
      have := h7.1
      rw [List.getD_eq_getElem?_getD, hp] at this
      exact this
    unfold qN
    rw [hz, Int.zero_mul]
theorem Vd.q {T : Tm} {D : Int} {wn i : Nat} (h : Vd T D wn) (hi : i < 12) : -(2 * D) ≤ qN T D i ∧ qN T D i ≤ 2 * D := by
  obtain ⟨a, b, c, d, e, f⟩ := h.ps i hi
  unfold qN
  generalize D / (psN T i).2 = k at *
  generalize (psN T i).1 = n at *
  generalize (psN T i).2 = m at *
  have k0 : (0 : Int) ≤ k := by omega
  have h1 := Int.mul_le_mul_of_nonneg_right c k0
  have h2 := Int.mul_le_mul_of_nonneg_right d k0
  have e1 : -2 * m * k = -(2 * D) := by rw [← e]; grind
  have e2 : 2 * m * k = 2 * D := by rw [← e]; grind
  omega
theorem Vd.circ {T : Tm} {D : Int} {wn : Nat} (h : Vd T D wn) : Circ D (fN T D) wn where
  d1 := h.d1
  d2 := h.d2
  w := h.w
  bd := fun _ hi => fvV_bd h.d1 h.d2 (h.q hi)
  bt := fun _ hi => fvV_bt h.d1 (h.q hi)
theorem Vd.fiv {T : Tm} {D : Int} {wn i : Nat} (h : Vd T D wn) (hi : i < 12) : fivR T i = lowR (fN T D i) D := by
  obtain ⟨a, b, c, d, e, f⟩ := h.ps i hi
  have hq := h.q hi
  have hd1 := h.d1
  have hd2 := h.d2
  have cb : (cmV T.sy).bd 100000 := by unfold V6.bd; rcases cmV_cases T.sy with e | e <;> rw [e] <;> simp only <;> omega
  have cq : (V6.scl (qN T D i) (cmV T.sy)).bd 100000 := by unfold V6.bd V6.scl; rcases cmV_cases T.sy with e | e <;> rw [e] <;> simp only <;> omega
  have hp := pow_low (c := cmV T.sy) (n := (psN T i).1) (d := (psN T i).2) (q := D / (psN T i).2) (D := D) a (by omega) (by omega) f e.symm (by omega) cb cq
  unfold fivR
  rw [cmW_low, ← low_one (v := cmV T.sy), hp, of_low D (by omega) of_32]
  show (bothW (lowR (V6.scl D w32) D) (lowR (V6.scl (qN T D i) (cmV T.sy)) D) (-1)).1 = _
  have wb : (V6.scl D w32).bd 100000 := by unfold V6.bd V6.scl w32; simp only; omega
  have fb := (h.circ.bd i hi).mono (show (4680 : Int) ≤ 100000 by omega)
  rw [both_low hd1 (by omega) wb cq fb]
  rfl
theorem Vd.lf {T : Tm} {D : Int} {wn : Nat} (h : Vd T D wn) : ∀ {n : Nat}, n ≤ 12 → lfR T wn n = lowR (LS D (fN T D) wn n) D
  | 0, _ => by
    show (ofW 128 1).1 = lowR (octV (7 * D)) D
    rw [of_low D (by have := h.d1; omega) of_128]
    congr 1
    unfold V6.scl octV
    apply V6.eq <;> simp only <;> grind
  | n + 1, hn => by
    have ih := Vd.lf h (n := n) (by omega)
    have hd2 := h.d2
    by_cases e : n = wn
    · rw [show lfR T wn (n + 1) = lfR T wn n from if_pos e, ih, show LS D (fN T D) wn (n + 1) = LS D (fN T D) wn n from if_pos e]
    · rw [show lfR T wn (n + 1) = (bothW (lfR T wn n) (fivR T n) (-1)).1 from if_neg e, ih, h.fiv (by omega), show LS D (fN T D) wn (n + 1) = (LS D (fN T D) wn n).add (V6.scl (-1) (fN T D n)) from if_neg e]
      have b3 := h.circ.ls_bd hn
      rw [show LS D (fN T D) wn (n + 1) = (LS D (fN T D) wn n).add (V6.scl (-1) (fN T D n)) from if_neg e] at b3
      rw [both_low h.d1 (by omega) ((h.circ.ls_bd (by omega)).mono (by omega)) ((h.circ.bd n (by omega)).mono (by omega)) (b3.mono (by omega))]
theorem fifR_len (T : Tm) (wn : Nat) : (fifR T wn).length = 12 := by unfold fifR; rw [List.length_set, rowR_len]
theorem Vd.fif {T : Tm} {D : Int} {wn i : Nat} (h : Vd T D wn) (hi : i < 12) : (fifR T wn)[i]? = some (lowR (FF D (fN T D) wn i) D) := by
  unfold fifR
  by_cases e : i = wn
  · subst e
    rw [List.getElem?_set_self (by rw [rowR_len]; exact hi), FF_wf, h.lf (Nat.le_refl 12)]
  · rw [List.getElem?_set_ne (fun h => e h.symm), rowR_at hi e hi, FF_ne e, h.fiv hi]
theorem circ_note_step {D : Int} {F : Nat → V6} {wf i : Nat} {r r' : Rt} (h : Circ D F wf) (hi : i < 12) (hn : NoteIs D F wf i r) (hf : FoldIs (bothW r (lowR (FF D F wf i) D) 1).1 r') : NoteIs D F wf (i + 1) r' := by
  obtain ⟨k, hk, e⟩ := h.note_mul hi hn
  rw [e] at hf
  have hd1 := h.d1
  have hd2 := h.d2
  have hb := h.note_bd (i := i + 1) (j := i) (by omega) (by omega) hk
  obtain ⟨m, hm, hr⟩ := hf (lowR_ok hd1 (by omega) (hb.mono (by omega)))
  rw [low_FlIs (by omega), FlIs.shift] at hm
  have e2 : foR (lowR ((PS (FF D F wf) (i + 1)).two (-(k * D))) D) m = lowR ((PS (FF D F wf) (i + 1)).two (-((k + m) * D))) D := by
    unfold foR
    rw [low_fold (by omega), V6.two_two]
    congr 2
    grind
  have hb2 := h.note_bd (i := i + 1) (j := i + 1) (by omega) (by omega) hm
  refine ⟨k + m, hm, ?_⟩
  rw [← e2]
  refine hr ?_
  rw [e2]
  exact (lowR_ok hd1 (by omega) (hb2.mono (by omega))).fit
end Go.Proofs.YtkoghdgfllichaaDoor.Tp
