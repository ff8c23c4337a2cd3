import Derived.Test.YtlababdfdjjjaaaGreatDoorN40
import Derived.Test.YtlababdfdjjjaaaGreatDoorRRA
import Derived.Test.YtlababdfdjjjaaaGreatDoorNK
namespace Go.Proofs.YtlababdfdjjjaaaGreatDoor
end Go.Proofs.YtlababdfdjjjaaaGreatDoor
namespace Go.Proofs.YtlababdfdjjjaaaGreatDoor
end Go.Proofs.YtlababdfdjjjaaaGreatDoor
namespace Go.Proofs.YtlababdfdjjjaaaGreatDoor
open Go.RowKit

/-! The reference's lowest fraction. -/
theorem rdiv0 {va vb : Value} {m n : Nat} {w : World} (ha : Num w w.heap.size va m) (hb : Num w w.heap.size vb n) (hla : (dg m).length ≤ 1000000) (hlb : (dg n).length ≤ 1000000) (hn : 0 < n) :
    Calls Tryz.prog 99 #[va, vb] w (RDiv w m n) := rdivide_any va vb m n w ha hb (by omega) (by omega) hn

set_option maxRecDepth 100000 in
set_option maxHeartbeats 4000000 in
theorem rlowest_any (neg : Bool) (va vb : Value) (m n : Nat) (w : World) (ha : Num w w.heap.size va m) (hb : Num w w.heap.size vb n) (hn : n ≠ 0) (hla : (dg m).length ≤ 1000000) (hlb : (dg n).length ≤ 1000000) :
    Calls Tryz.prog 108 #[.bool neg, va, vb] w (ResW w (lowW neg m n)) := by
  have hg0 : Nat.gcd m n ≠ 0 := fun h => hn (Nat.eq_zero_of_gcd_eq_zero_right h)
  have hgl : (dg (Nat.gcd m n)).length ≤ 1000000 := Nat.le_trans (dg_mono (Nat.le_of_dvd (by omega) (Nat.gcd_dvd_right m n))) hlb
  have hb0 : Below w.heap.size w (w.alloc (.cells #[.bool false, .slice none 0 0, .slice none 0 0] 48)) := (Below.refl _ w).alloc (Nat.le_refl _) _
  have hq0 := QB.new w false (.slice none 0 0) (.slice none 0 0)
  have hcm := rcommon_any va vb m n _ (Lim.up ha hb0) (Lim.up hb hb0) (by omega) (by omega)
  have hd1 : ∀ W v, Below w.heap.size w W → Num W W.heap.size v (Nat.gcd m n) → Calls Tryz.prog 99 #[va, v] W (fun e w' => ∃ q r, e = .returned (.tuple #[q, r]) ∧ Num w' w'.heap.size q (m / Nat.gcd m n) ∧ Below W.heap.size W w') := fun W v hW hv => (rdiv0 (Lim.up ha hW) hv hla hgl (by omega)).mono (fun e w' h => by obtain ⟨q, r, h1, h2, -, h4⟩ := h; exact ⟨q, r, h1, h2, h4⟩)
  have hd2 : ∀ W v, Below w.heap.size w W → Num W W.heap.size v (Nat.gcd m n) → Calls Tryz.prog 99 #[vb, v] W (fun e w' => ∃ q r, e = .returned (.tuple #[q, r]) ∧ Num w' w'.heap.size q (n / Nat.gcd m n) ∧ Below W.heap.size W w') := fun W v hW hv => (rdiv0 (Lim.up hb hW) hv hlb hgl (by omega)).mono (fun e w' h => by obtain ⟨q, r, h1, h2, -, h4⟩ := h; exact ⟨q, r, h1, h2, h4⟩)
  obtain ⟨A, capa, rfl, -⟩ := ha.form
  obtain ⟨B, capb, rfl, -⟩ := hb.form
  unfold lowW
  generalize Nat.gcd m n = g at *
  have HQ0 := Lib.hid hq0
  have HB0 := Lib.hid hb0
  have HCM := Lib.hid hcm
  have HD1 := Lib.hid hd1
  have HD2 := Lib.hid hd2
  clear hq0 hb0 hcm hd1 hd2 ha hb hla hlb hgl
  generalize (dg m).length = la at *
  generalize (dg n).length = lb at *
  generalize m / g = N1 at *
  generalize n / g = N2 at *
  obtain ⟨res, hres⟩ : ∃ res : Bool × Nat × Nat × Int, res = if 512 < (dg N1).length ∨ 512 < (dg N2).length then (false, 0, 0, 3) else (neg && decide (N1 ≠ 0), N1, N2, 0) := ⟨_, rfl⟩
  rw [← hres]
  have HRES := Lib.hid hres
  clear hres
  go_enter Tryz.func108, Tryz.ntmps108
  go_wp2_with fail
  refine HCM.out.mono ?_
  rintro e w1 ⟨vg, he, hvg, hb1⟩
  subst he
  have hb01 := HB0.out.trans (hb1.mono HB0.out.size)
  have hq1 := HQ0.out.below hb1 HQ0.out.lt
  go_wp2_with fail
  refine (HD1.out w1 vg hb01 hvg).mono ?_
  rintro e w2 ⟨q1, r1, he, hn1, hb2⟩
  subst he
  have hb02 := hb01.trans (hb2.mono hb01.size)
  have hq2 := hq1.below hb2 hq1.lt
  go_wp2_with fail
  refine (HD2.out w2 vg hb02 (Lim.up hvg hb2)).mono ?_
  rintro e w3 ⟨q2, r2, he, hn2, hb3⟩
  subst he
  have hb03 := hb02.trans (hb3.mono hb02.size)
  have hq3 := hq2.below hb3 hq2.lt
  have hn1' : Num w3 w3.heap.size q1 N1 := Lim.up hn1 hb3
  obtain ⟨A1, c1', rfl, -⟩ := hn1'.form
  obtain ⟨A2, c2', rfl, -⟩ := hn2.form
  have c0 := hq3.c0
  have c1 := hq3.c1
  have c2 := hq3.c2
  have f0 := hq3.fr 0
  have f1 := hq3.fr 1
  have f2 := hq3.fr 2
  by_cases hlong : 512 < (dg N1).length ∨ 512 < (dg N2).length
  · have hres := HRES.out
    rw [if_pos hlong] at hres
    subst hres
    have hQ := hq3.write false (.slice none 0 0) (.slice none 0 0)
    have hBl := wroteQ_below hb03 (Nat.le_refl _) false (.slice none 0 0) (.slice none 0 0)
    have HQ := Lib.hid hQ
    have HBl := Lib.hid hBl
    clear hn1 hn2 hn1' hq1 hq2 hq3 hQ hBl
    generalize (dg N1).length = l1 at *
    generalize (dg N2).length = l2 at *
    by_cases h1 : 512 < l1
    · have h1i : (512 : Int) < (l1 : Int) := by omega
      go_wp2_with fail
      change bodyPost _ _ _ Exit.ret _ (wroteQ w3 w.heap.size false (.slice none 0 0) (.slice none 0 0))
      generalize wroteQ w3 w.heap.size false (.slice none 0 0) (.slice none 0 0) = W9 at HQ HBl ⊢
      have k0 := HQ.out.c0
      have k1 := HQ.out.c1
      have k2 := HQ.out.c2
      refine bodyPost_ret (v := .tuple #[.agg #[.bool false, .slice none 0 0, .slice none 0 0], .int .i64 3]) ?_ rfl ⟨_, _, rfl, Num.zero _ _, Num.zero _ _, HBl.out⟩
      simp [results, Tryz.results108, k0, k1, k2, go_sem]
    · have h2 : 512 < l2 := by omega
      have h1i : ¬ (512 : Int) < (l1 : Int) := by omega
      have h2i : (512 : Int) < (l2 : Int) := by omega
      go_wp2_with fail
      change bodyPost _ _ _ Exit.ret _ (wroteQ w3 w.heap.size false (.slice none 0 0) (.slice none 0 0))
      generalize wroteQ w3 w.heap.size false (.slice none 0 0) (.slice none 0 0) = W9 at HQ HBl ⊢
      have k0 := HQ.out.c0
      have k1 := HQ.out.c1
      have k2 := HQ.out.c2
      refine bodyPost_ret (v := .tuple #[.agg #[.bool false, .slice none 0 0, .slice none 0 0], .int .i64 3]) ?_ rfl ⟨_, _, rfl, Num.zero _ _, Num.zero _ _, HBl.out⟩
      simp [results, Tryz.results108, k0, k1, k2, go_sem]
  · have hres := HRES.out
    rw [if_neg hlong] at hres
    subst hres
    have h1i : ¬ (512 : Int) < ((dg N1).length : Int) := by omega
    have h2i : ¬ (512 : Int) < ((dg N2).length : Int) := by omega
    have hfin : ∀ sg : Bool, QB (wroteQ w3 w.heap.size sg (.slice A1 (dg N1).length c1') (.slice A2 (dg N2).length c2')) w.heap.size sg (.slice A1 (dg N1).length c1') (.slice A2 (dg N2).length c2') ∧
        Num (wroteQ w3 w.heap.size sg (.slice A1 (dg N1).length c1') (.slice A2 (dg N2).length c2')) w3.heap.size (.slice A1 (dg N1).length c1') N1 ∧
        Num (wroteQ w3 w.heap.size sg (.slice A1 (dg N1).length c1') (.slice A2 (dg N2).length c2')) w3.heap.size (.slice A2 (dg N2).length c2') N2 ∧
        Below w.heap.size w (wroteQ w3 w.heap.size sg (.slice A1 (dg N1).length c1') (.slice A2 (dg N2).length c2')) ∧
        w3.heap.size ≤ (wroteQ w3 w.heap.size sg (.slice A1 (dg N1).length c1') (.slice A2 (dg N2).length c2')).heap.size := fun sg =>
      ⟨hq3.write sg _ _, Lim.wroteQ hn1' hq3 sg _ _, Lim.wroteQ hn2 hq3 sg _ _, wroteQ_below hb03 (Nat.le_refl _) sg _ _, by simp [wroteQ, World.setCell]⟩
    have HF := Lib.hid hfin
    have hnz : decide (N1 ≠ 0) = decide (0 < (dg N1).length) := by
      rcases Nat.eq_zero_or_pos (dg N1).length with h | h
      · rw [dg_nil.1 (List.eq_nil_of_length_eq_zero h), dg_zero]; rfl
      · have : N1 ≠ 0 := fun e => by rw [e, dg_zero] at h; simp at h
        simp [this, h]
    have HNZ := Lib.hid hnz
    clear hn1 hn2 hn1' hq1 hq2 hq3 hfin hlong hnz
    generalize (dg N1).length = l1 at *
    generalize (dg N2).length = l2 at *
    have HFN := Lib.hid (HF.out (neg && decide (0 < l1)))
    clear HF
    by_cases hz : 0 < l1
    · have t1 : (0 : Int) < (l1 : Int) := by omega
      have t0 : decide ((0 : Int) < (l1 : Int)) = true := decide_eq_true t1
      rw [decide_eq_true hz, Bool.and_true] at HFN
      have HN1 := Lib.hid (show N1 ≠ 0 from of_decide_eq_true (HNZ.out.trans (decide_eq_true hz)))
      cases neg
      all_goals
        go_wp2_with fail
        obtain ⟨g1, g2, g3, g4, g5⟩ := HFN.out
        first
          | (change bodyPost _ _ _ Exit.ret _ (wroteQ w3 w.heap.size false (.slice A1 l1 c1') (.slice A2 l2 c2'))
             generalize wroteQ w3 w.heap.size false (.slice A1 l1 c1') (.slice A2 l2 c2') = W9 at g1 g2 g3 g4 g5 ⊢)
          | (change bodyPost _ _ _ Exit.ret _ (wroteQ w3 w.heap.size true (.slice A1 l1 c1') (.slice A2 l2 c2'))
             generalize wroteQ w3 w.heap.size true (.slice A1 l1 c1') (.slice A2 l2 c2') = W9 at g1 g2 g3 g4 g5 ⊢)
        have k0 := g1.c0
        have k1 := g1.c1
        have k2 := g1.c2
        refine bodyPost_ret ?_ rfl ⟨_, _, rfl, Lim.more g2 g5, Lim.more g3 g5, g4⟩
        have hn1 := HN1.out
        simp [results, Tryz.results108, k0, k1, k2, hn1, go_sem]
    · have t1 : ¬ (0 : Int) < (l1 : Int) := by omega
      have t0 : decide ((0 : Int) < (l1 : Int)) = false := decide_eq_false t1
      rw [decide_eq_false hz, Bool.and_false] at HFN
      have HN1 := Lib.hid (show ¬ N1 ≠ 0 from of_decide_eq_false (HNZ.out.trans (decide_eq_false hz)))
      cases neg
      all_goals
        go_wp2_with fail
        obtain ⟨g1, g2, g3, g4, g5⟩ := HFN.out
        change bodyPost _ _ _ Exit.ret _ (wroteQ w3 w.heap.size false (.slice A1 l1 c1') (.slice A2 l2 c2'))
        generalize wroteQ w3 w.heap.size false (.slice A1 l1 c1') (.slice A2 l2 c2') = W9 at g1 g2 g3 g4 g5 ⊢
        have k0 := g1.c0
        have k1 := g1.c1
        have k2 := g1.c2
        refine bodyPost_ret ?_ rfl ⟨_, _, rfl, Lim.more g2 g5, Lim.more g3 g5, g4⟩
        have hn1 := HN1.out
        simp [results, Tryz.results108, k0, k1, k2, hn1, go_sem]
end Go.Proofs.YtlababdfdjjjaaaGreatDoor
