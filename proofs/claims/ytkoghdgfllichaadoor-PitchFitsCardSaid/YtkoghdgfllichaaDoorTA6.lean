import Derived.Test.YtkoghdgfllichaaDoorTAA
namespace Go.Proofs.YtkoghdgfllichaaDoor.Tp
open Go.RowKit

def RfRel (w : World) (L : List Value) (P : List (Int × Int)) (iv : Value) (wr : World) : Prop :=
  ∃ i : Nat, i ≤ 12 ∧ iv = .int .i64 (i : Int) ∧ (∀ p ∈ P.take i, pOk p = true) ∧ RowV wr w.heap.size 38 L ∧ Below w.heap.size w wr
def RaRel (w : World) (L : List Value) (P : List (Int × Int)) (mv iv : Value) (wr : World) : Prop :=
  ∃ i m : Nat, i ≤ 12 ∧ iv = .int .i64 (i : Int) ∧ mv = .int .i64 (m : Int) ∧ (∀ p ∈ P.take i, gOk p = true) ∧ ((lcL (P.take i) = m ∧ 1 ≤ m ∧ m ≤ 120) ∨ (120 < m ∧ m ≤ 2880 ∧ 120 < lcL P)) ∧ RowV wr w.heap.size 38 L ∧ Below w.heap.size w wr
theorem part_cells {W : World} {g : Nat} {T : Tm} (h : RowV W g 38 (tmV T)) {i : Nat} {x y : Int} (hi : T.ps[i]? = some (x, y)) : W.cell? ⟨g, 3 + i * 2, none⟩ = some (.int .i64 x) ∧ W.cell? ⟨g, 3 + i * 2 + 1, none⟩ = some (.int .i64 y) := by
  obtain ⟨f1, f2⟩ := fl2_at hi
  refine ⟨h.cell ?_, h.cell ?_⟩
  · rw [Nat.add_comm, Nat.mul_comm]; exact f1
  · rw [show 3 + i * 2 + 1 = 2 * i + 1 + 3 by omega]; exact f2
theorem fitsT_false1 {T : Tm} (h : T.wo < 0 ∨ 11 < T.wo) : fitsT T = false := by
  unfold fitsT
  rw [Bool.eq_false_iff]
  intro h2
  simp only [Bool.and_eq_true, decide_eq_true_eq] at h2
  omega
theorem fitsT_false2 {T : Tm} {i : Nat} {p : Int × Int} (h : T.ps[i]? = some p) (hp : pOk p = false) : fitsT T = false := by
  unfold fitsT
  rw [all_no h hp]
  rfl
theorem fitsT_true {T : Tm} (h : T.ps.all pOk = true) (h1 : 0 ≤ T.wo) (h2 : T.wo ≤ 11) : fitsT T = true := by
  unfold fitsT
  rw [h, decide_eq_true h1, decide_eq_true (by omega)]
  rfl
set_option maxRecDepth 100000 in
set_option maxHeartbeats 2000000 in
theorem rCheck_bad (T : Tm) (w : World) (hw : T.wo < 0 ∨ 11 < T.wo) : Calls Tryd.prog 15 #[.agg (tmV T).toArray] w fun e w' => e = .returned (.int .i64 2) ∧ Below w.heap.size w w' := by
  have HR := Lib.hid (RowV.of_alloc w 38 (tmV T))
  have hwo : ∀ W, RowV W w.heap.size 38 (tmV T) → W.cell? ⟨w.heap.size, 2, none⟩ = some (.int .i64 T.wo) := fun W h => h.cell (i := 2) rfl
  have m2 := hwo _ HR.out
  generalize tmV T = L at *
  generalize T.wo = wo at *
  clear hwo
  rcases hw with hw | hw
  · go_enter Tryd.func15, Tryd.ntmps15
    go_wp2
    go_ret
    exact ⟨rfl, belB w _⟩
  · have h0 : ¬ wo < 0 := by omega
    go_enter Tryd.func15, Tryd.ntmps15
    go_wp2
    go_ret
    exact ⟨rfl, belB w _⟩
set_option maxRecDepth 100000 in
set_option maxHeartbeats 2000000 in
theorem rCheck_wolf (T : Tm) (w : World) (hl : T.ps.length = 12) (hs : T.nm.size ≤ maxLen) (hw1 : 0 ≤ T.wo) (hw2 : T.wo ≤ 11) : Calls Tryd.prog 15 #[.agg (tmV T).toArray] w fun e w' => e = .returned (.int .i64 (chkT T)) ∧ Below w.heap.size w w' := by
  have hck : chkT T = if fitsT T = true then (if formedT T = true then (if agreeT T = true then 0 else 7) else 6) else 2 := rfl
  have HR := Lib.hid (RowV.of_alloc w 38 (tmV T))
  obtain ⟨wn, hwn⟩ : ∃ wn : Nat, T.wo = (wn : Int) := ⟨T.wo.toNat, by omega⟩
  obtain ⟨⟨wx, wy⟩, hwp⟩ : ∃ p, T.ps[wn]? = some p := ⟨T.ps[wn]'(by omega), List.getElem?_eq_getElem _⟩
  have hwP : woP T = (wx, wy) := by unfold woP; rw [hwn, Int.toNat_natCast, List.getD_eq_getElem?_getD, hwp]; rfl
  have hfd : formedT T = (T.ps.all gOk && (nameB' T.nm && zB (wx, wy))) := by rw [← hwP]; rfl
  have hag : agreeT T = decide (lcL T.ps ≤ 120) := rfl
  have HF1 := Lib.hid (fun i p (h : T.ps[i]? = some p) (hp : pOk p = false) => fitsT_false2 h hp)
  have HF2 := Lib.hid (fun (h : T.ps.all pOk = true) => fitsT_true h hw1 hw2)
  have HPC := Lib.hid (fun W (h : RowV W w.heap.size 38 (tmV T)) i x y (hi : T.ps[i]? = some (x, y)) => part_cells h hi)
  have HWC := Lib.hid (fun W (h : RowV W w.heap.size 38 (tmV T)) => part_cells h hwp)
  have hwo : ∀ W, RowV W w.heap.size 38 (tmV T) → W.cell? ⟨w.heap.size, 0, none⟩ = some (.string T.nm) ∧ W.cell? ⟨w.heap.size, 2, none⟩ = some (.int .i64 (wn : Int)) := fun W h => ⟨h.cell (i := 0) rfl, h.cell (i := 2) (by rw [← hwn]; rfl)⟩
  have hwz : formedT T = true → zB (wx, wy) = true ∧ nameB' T.nm = true ∧ T.ps.all gOk = true := by
    rw [hfd]; intro h; simp only [Bool.and_eq_true] at h; exact ⟨h.2.2, h.2.1, h.1⟩
  have HNM := Lib.hid (fun W => Wn.rname_any T.nm W hs)
  have hnb : Wn.nameB T.nm.data.toList = nameB' T.nm := rfl
  rw [hnb] at HNM
  have HL := Lib.hid hl
  have HCK := Lib.hid hck
  have HFD := Lib.hid hfd
  have HAG := Lib.hid hag
  have HWO := Lib.hid hwo
  have hwn12 : wn ≤ 11 := by omega
  clear hl hck hfd hag hwo hwn hwp hwP hw1 hw2 hwz
  generalize chkT T = CK at *
  generalize fitsT T = FT at *
  generalize formedT T = FO at *
  generalize agreeT T = AG at *
  generalize nameB' T.nm = NB at *
  generalize tmV T = L at *
  generalize T.ps = P at *
  generalize T.nm = nm at *
  have c2 := (HWO.out _ HR.out).2
  go_enter Tryd.func15, Tryd.ntmps15
  go_wp2
  go_loopw [3] (fun iv wr => RfRel w L P iv wr) (fun iv _ => 12 - (intOf iv).toNat)
  case atStart => exact ⟨0, Nat.zero_le _, rfl, (by simp), HR.out, belB w _⟩
  case round =>
    clear HR c2
    obtain ⟨i, hi, rfl, hok, hrow, hb⟩ := hrel
    have HOK := Lib.hid hok
    have HROW := Lib.hid hrow
    have HB := Lib.hid hb
    clear hok hrow hb
    by_cases hil : i < 12
    · obtain ⟨⟨n, d⟩, hn⟩ : ∃ p, P[i]? = some p := ⟨P[i]'(by have := HL.out; omega), List.getElem?_eq_getElem _⟩
      obtain ⟨c3, c4⟩ := HPC.out _ HROW.out i n d hn
      have hilI : (i : Int) < 12 := by omega
      have HN := Lib.hid hn
      clear hn
      have hca : d < 1 ∨ (¬ d < 1 ∧ 24 < d) ∨ ((1 ≤ d ∧ d ≤ 24) ∧ n < -2 * d) ∨ ((1 ≤ d ∧ d ≤ 24) ∧ ¬ n < -2 * d ∧ 2 * d < n) ∨ ((1 ≤ d ∧ d ≤ 24) ∧ ¬ n < -2 * d ∧ ¬ 2 * d < n) := by omega
      rcases hca with h1 | ⟨h1, h2⟩ | ⟨⟨h1, h2⟩, h3⟩ | ⟨⟨h1, h2⟩, h3, h4⟩ | ⟨⟨h1, h2⟩, h3, h4⟩
      case' inr.inr.inr.inr =>
        have hp : pOk (n, d) = true := pOk_iff.2 ⟨⟨h1, h2⟩, by simp only; omega, by simp only; omega⟩
        have HP := Lib.hid hp
        clear hp
        go_wp2
        refine ⟨⟨i + 1, by omega, by go_num, all_take HOK.out HN.out HP.out, HROW.out.alloc _, ?_⟩, by simp [intOf]; omega⟩
        exact HB.out.alloc HB.out.size _
      all_goals
        have hp : pOk (n, d) = false := by rw [Bool.eq_false_iff]; intro h; have := pOk_iff.1 h; simp only at this; omega
        have HP := Lib.hid hp
        clear hp
        go_wp2
        go_ret
        refine ⟨?_, HB.out.alloc HB.out.size _⟩
        rw [HCK.out, HF1.out _ _ HN.out HP.out]
        rfl
    · obtain rfl : i = 12 := by omega
      obtain ⟨c0, c2⟩ := HWO.out _ HROW.out
      obtain ⟨c3, c4⟩ := HWC.out _ HROW.out
      have ha : P.all pOk = true := List.all_eq_true.2 fun y hy => HOK.out y (by rw [List.take_of_length_le (by have := HL.out; omega)]; exact hy)
      have hft := HF2.out ha
      have HPS := Lib.hid ha
      subst hft
      have HCK2 : Hid (CK = if FO = true then (if AG = true then 0 else 7) else 6) := Lib.hid (by rw [HCK.out]; rfl)
      clear ha HCK HF1 HF2
      cases NB
      case' false =>
        have hfo : FO = false := by rw [HFD.out]; simp
        have HFO := Lib.hid hfo
        clear hfo
        go_wp2_with fail
        refine (HNM.out _).mono ?_
        rintro e w2 ⟨he, hw⟩
        subst he
        subst hw
        go_wp2
        go_ret
        refine ⟨?_, HB.out⟩
        rw [HCK2.out, HFO.out]
        rfl
      case' true =>
        go_wp2_with fail
        refine (HNM.out _).mono ?_
        rintro e w2 ⟨he, hw⟩
        subst he
        subst hw
        by_cases hx : wx = 0
        case' neg =>
          have hfo : FO = false := by rw [HFD.out]; unfold zB; simp [hx]
          have q1 : (wx == 0) = false := beq_false_of_ne hx
          have HFO := Lib.hid hfo
          clear hfo hx
          go_wp2
          go_ret
          refine ⟨?_, HB.out⟩
          rw [HCK2.out, HFO.out]
          rfl
        case' pos =>
          subst hx
          by_cases hy : wy = 1
          case' neg =>
            have hfo : FO = false := by rw [HFD.out]; unfold zB; simp [hy]
            have q1 : (wy == 1) = false := beq_false_of_ne hy
            have HFO := Lib.hid hfo
            clear hfo hy
            go_wp2
            go_ret
            refine ⟨?_, HB.out⟩
            rw [HCK2.out, HFO.out]
            rfl
          case' pos =>
            subst hy
            have hfo : FO = P.all gOk := by rw [HFD.out]; unfold zB; simp
            have HFO := Lib.hid hfo
            clear hfo HFD HNM HWC HOK
            go_wp2
            go_loopw [5, 6] (fun mv iv wr => RaRel w L P mv iv wr) (fun _ iv _ => 12 - (intOf iv).toNat)
            case atStart => exact ⟨0, 1, Nat.zero_le _, rfl, rfl, (by simp), .inl ⟨rfl, by omega, by omega⟩, HROW.out, HB.out⟩
            case round =>
              clear HROW HB c0 c2 c3 c4
              obtain ⟨i, m, hi, rfl, rfl, hok, hlc, hrow, hb⟩ := hrel
              have HOK := Lib.hid hok
              have HLC := Lib.hid hlc
              have HROW := Lib.hid hrow
              have HB := Lib.hid hb
              have hmb : 1 ≤ m ∧ m ≤ 2880 := by omega
              clear hok hlc hrow hb
              by_cases hil : i < 12
              · obtain ⟨⟨n, d0⟩, hn⟩ : ∃ p, P[i]? = some p := ⟨P[i]'(by have := HL.out; omega), List.getElem?_eq_getElem _⟩
                have hp := pOk_iff.1 (List.all_eq_true.1 HPS.out (n, d0) (List.mem_of_getElem? hn))
                simp only at hp
                obtain ⟨d, rfl⟩ : ∃ d : Nat, d0 = (d : Int) := ⟨d0.toNat, by omega⟩
                obtain ⟨c3, c4⟩ := HPC.out _ HROW.out i n d hn
                have hilI : (i : Int) < 12 := by omega
                have hst := lc_step hn
                have HN := Lib.hid hn
                clear hn
                simp only at hst
                rw [Int.natAbs_natCast] at hst
                obtain ⟨⟨h1, h2⟩, h3, h4⟩ := hp
                obtain ⟨a, ha⟩ : ∃ a, a = n.natAbs := ⟨_, rfl⟩
                have hmx : max n (-n) = (a : Int) := by omega
                obtain ⟨g, hg⟩ : ∃ g, g = Nat.gcd a d := ⟨_, rfl⟩
                have hcd := fun W => r5gcd_any a d W (by omega) (by omega)
                rw [← hg] at hcd
                have HCD := Lib.hid hcd
                have HG := Lib.hid hg
                have HA := Lib.hid ha
                have HST := Lib.hid hst
                have hp1 : g = 1 → gOk (n, (d : Int)) = true := fun h => by unfold gOk; simp only; rw [Int.natAbs_natCast, ← ha, ← hg, h]; rfl
                have hp2 : ¬ g = 1 → gOk (n, (d : Int)) = false := fun h => by unfold gOk; simp only; rw [Int.natAbs_natCast, ← ha, ← hg]; simp [h]
                have HP1 := Lib.hid hp1
                have HP2 := Lib.hid hp2
                have hca : (n = (a : Int) ∧ -(a : Int) ≤ (a : Int)) ∨ (n = -(a : Int) ∧ ¬ (a : Int) ≤ -(a : Int)) := by omega
                clear hcd hg ha hst hmx hp1 hp2 HG HA
                rcases hca with ⟨rfl, h5⟩ | ⟨rfl, h5⟩
                all_goals
                  have hm1 : max (a : Int) (-(a : Int)) = (a : Int) := by omega
                  have hm2 : max (-(a : Int)) (a : Int) = (a : Int) := by omega
                  have hm3 : max (-(a : Int)) (- -(a : Int)) = (a : Int) := by omega
                  go_wp2_with fail
                  clear hm1 hm2 hm3
                  refine (HCD.out _).mono ?_
                  rintro e w2 ⟨he, hdr⟩
                  subst he
                  have hb2 := hdr.below
                  have hpr := (RowV.of_alloc wr 35 [.int .i64 _, .int .i64 (d : Int)]).up hb2
                  have hrow2 := (HROW.out.alloc _).up hb2
                  have hbb := (HB.out.alloc HB.out.size _).trans (hb2.mono (by simp; have := HB.out.size; omega))
                  have c5 := hpr.cell (i := 1) rfl
                  have HROW2 := Lib.hid hrow2
                  have HB2 := Lib.hid hbb
                  clear hdr hb2 hpr hrow2 hbb
                  by_cases hg1 : g = 1
                  · have hp := HP1.out hg1
                    have HP := Lib.hid hp
                    clear hp
                    subst hg1
                    by_cases hle : m ≤ 120
                    · have hlc : lcL (P.take i) = m := by rcases HLC.out with h | h <;> omega
                      have hst := HST.out
                      rw [hlc] at hst
                      obtain ⟨g2, hg2⟩ : ∃ g2, g2 = Nat.gcd m d := ⟨_, rfl⟩
                      have hgp : 0 < g2 := by rw [hg2]; exact Nat.gcd_pos_of_pos_left _ (by omega)
                      have hcd2 := fun W => r5gcd_any m d W (by omega) (by omega)
                      rw [← hg2] at hcd2
                      have hlq : m / g2 * d = Nat.lcm m d := by
                        subst hg2
                        rw [Nat.lcm, Nat.div_mul_right_comm (Nat.gcd_dvd_left m d)]
                      obtain ⟨k, hk⟩ : ∃ k, k = m / g2 := ⟨_, rfl⟩
                      rw [← hk, ← hst] at hlq
                      obtain ⟨m2, hm⟩ : ∃ m2, m2 = lcL (P.take (i + 1)) := ⟨_, rfl⟩
                      rw [← hm] at hlq
                      have hkd : k ≤ m := by rw [hk]; exact Nat.div_le_self _ _
                      have hmk : k * d ≤ 120 * 24 := Nat.mul_le_mul (by omega) (by omega)
                      have hm21 : 1 ≤ m2 := by
                        rw [hm, hst]; exact Nat.lcm_pos (by omega) (by omega)
                      have hq : (m : Int).tdiv (g2 : Int) = (k : Int) := by rw [hk]; rfl
                      have hq2 : (m : Int) / (g2 : Int) = (k : Int) := by rw [hk]; exact (Int.natCast_ediv m g2).symm
                      have hmI : (k : Int) * (d : Int) = (m2 : Int) := by rw [← hlq]; exact (Int.natCast_mul k d).symm
                      have hm2b : (m2 : Int) ≤ 2880 := by rw [← hmI]; have := hmk; omega
                      have hg0 : ¬ (g2 : Int) = 0 := by omega
                      have HCD2 := Lib.hid hcd2
                      have HM := Lib.hid hm
                      clear hcd2 hm hst hk hg2 hlq hmk hlc HLC HST HCD
                      go_wp2
                      go_quiet ((go_at_call 46; exact Calls.quiet_of (HCD2.out _)))
                      go_wp2
                      refine ⟨⟨i + 1, m2, by omega, by go_num, rfl, all_take HOK.out HN.out HP.out, ?_, ?_, ?_⟩, by simp [intOf]; omega⟩
                      · by_cases hm3 : m2 ≤ 120
                        · exact .inl ⟨HM.out.symm, hm21, hm3⟩
                        · refine .inr ⟨by omega, by omega, ?_⟩
                          have h1 := Nat.le_of_dvd (Nat.lt_of_lt_of_le Nat.zero_lt_one (lc_pos P 1 (by omega) fun p hp => (pOk_iff.1 (List.all_eq_true.1 HPS.out p hp)).1.1)) (lc_take P (i + 1))
                          have h2 : P.foldl (fun m p => Nat.lcm m p.2.natAbs) 1 = lcL P := rfl
                          have := HM.out
                          omega
                      · exact HROW2.out.up (below_drewN _ _)
                      · exact HB2.out.trans ((below_drewN _ _).mono HB2.out.size)
                    · have hlc : 120 < lcL P := by rcases HLC.out with h | h <;> omega
                      have HLC2 := Lib.hid hlc
                      clear hlc HLC HST HCD
                      go_wp2
                      refine ⟨⟨i + 1, m, by omega, by go_num, rfl, all_take HOK.out HN.out HP.out, .inr ⟨by omega, by omega, HLC2.out⟩, ?_, ?_⟩, by simp [intOf]; omega⟩
                      · exact HROW2.out
                      · exact HB2.out
                  · have hp := HP2.out hg1
                    have HP := Lib.hid hp
                    have q1 : ((g : Int) != 1) = true := by simp; omega
                    clear hp hg1
                    go_wp2
                    go_ret
                    refine ⟨?_, ?_⟩
                    · rw [HCK2.out, HFO.out, all_no HN.out HP.out]
                      rfl
                    · exact HB2.out
              · obtain rfl : i = 12 := by omega
                have ha : P.all gOk = true := List.all_eq_true.2 fun y hy => HOK.out y (by rw [List.take_of_length_le (by have := HL.out; omega)]; exact hy)
                have hfo := HFO.out
                rw [ha] at hfo
                have hlc := HLC.out
                rw [List.take_of_length_le (by have := HL.out; omega)] at hlc
                have hck := HCK2.out
                rw [hfo, HAG.out] at hck
                by_cases hle : m ≤ 120
                · rw [decide_eq_true (by omega : lcL P ≤ 120)] at hck
                  have HK := Lib.hid hck
                  clear ha hfo hlc hck HLC HFO HCK2 HAG
                  go_wp2
                  go_ret
                  exact ⟨by rw [HK.out]; rfl, HB.out⟩
                · rw [decide_eq_false (by omega : ¬ lcL P ≤ 120)] at hck
                  have HK := Lib.hid hck
                  clear ha hfo hlc hck HLC HFO HCK2 HAG
                  go_wp2
                  go_ret
                  exact ⟨by rw [HK.out]; rfl, HB.out⟩
theorem rCheck_any (T : Tm) (w : World) (hl : T.ps.length = 12) (hs : T.nm.size ≤ maxLen) : Calls Tryd.prog 15 #[.agg (tmV T).toArray] w fun e w' => e = .returned (.int .i64 (chkT T)) ∧ Below w.heap.size w w' := by
  by_cases h : T.wo < 0 ∨ 11 < T.wo
  · have e : chkT T = 2 := by unfold chkT; rw [fitsT_false1 h]; rfl
    rw [e]
    exact rCheck_bad T w h
  · exact rCheck_wolf T w hl hs (by omega) (by omega)
end Go.Proofs.YtkoghdgfllichaaDoor.Tp
