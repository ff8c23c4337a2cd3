import Derived.Test.YtlmcafcebidliaaDoorKR5
namespace Go.Proofs.YtlmcafcebidliaaDoor
open Go.RowKit

def OaRel (w : World) (g1 g2 : Nat) (N D : Nat) (nv dv iv : Value) (wr : World) : Prop :=
  ∃ i : Nat, i ≤ 6 ∧ iv = .int .i64 (i : Int) ∧ nv = .int .i64 (((sts (ps6.take i) N).1 : Nat) : Int) ∧ dv = .int .i64 (((sts (ps6.take i) D).1 : Nat) : Int) ∧
    RowI wr w.heap.size 40 [0, 0, 0, 0, 0, 0, 0] ∧ RowI wr g1 40 (mixL (ofZ N D) zero6 i ++ [1]) ∧ RowI wr g2 2 psI ∧ Below w.heap.size w wr
def ObRel (w : World) (g1 g2 : Nat) (a p i : Nat) (s : Int) (up : Int) (L : List Int) (nv : Value) (wr : World) : Prop :=
  ∃ m t : Nat, nv = .int .i64 (m : Int) ∧ 1 ≤ m ∧ t + m ≤ a ∧ st p a = ((st p m).1, (st p m).2 + t) ∧
    RowI wr w.heap.size 40 [0, 0, 0, 0, 0, 0, 0] ∧ RowI wr g1 40 (L.set i (up + s * (t : Int)) ++ [1]) ∧ RowI wr g2 2 psI ∧ Below w.heap.size w wr
theorem zipWith_sub_eq {num den : Nat} (h1 : num ≠ 0) (h2 : den ≠ 0) : ofZ num den = ofZ (num / Nat.gcd num den) (den / Nat.gcd num den) ∧ ((sts ps6 num).1 = (sts ps6 den).1 ↔ (sts ps6 (num / Nat.gcd num den)).1 = 1 ∧ (sts ps6 (den / Nat.gcd num den)).1 = 1) := by
  obtain ⟨a, b⟩ := sts_low ps6 ps6_prime h1 h2
  exact ⟨b, a⟩
set_option maxRecDepth 100000 in
set_option maxHeartbeats 1000000 in
theorem rOf_bad (num den : Int) (w : World) (h : ¬ (1 ≤ num ∧ num ≤ 1000000000000 ∧ 1 ≤ den ∧ den ≤ 1000000000000)) :
    Calls Tryd.prog 37 #[.int .i64 num, .int .i64 den] w (RtPost w (ofW num den)) := by
  have hW : ofW num den = (Rt.zero, 2) := by unfold ofW; rw [if_neg h]
  rw [hW]
  have HB := Lib.hid (belA w (.cells #[.int .i64 0, .int .i64 0, .int .i64 0, .int .i64 0, .int .i64 0, .int .i64 0, .int .i64 0] 40))
  clear hW
  by_cases h1 : num < 1
  · clear h
    go_enter Tryd.func37, Tryd.ntmps37
    go_wp2
    exact bodyPost_ret (v := .tuple #[.agg #[.int .i64 0, .int .i64 0, .int .i64 0, .int .i64 0, .int .i64 0, .int .i64 0, .int .i64 0], .int .i64 2]) (by simp [results, Tryd.results37, go_sem]) rfl ⟨rfl, HB.out⟩
  by_cases h2 : 1000000000000 < num
  · clear h
    go_enter Tryd.func37, Tryd.ntmps37
    go_wp2
    exact bodyPost_ret (v := .tuple #[.agg #[.int .i64 0, .int .i64 0, .int .i64 0, .int .i64 0, .int .i64 0, .int .i64 0, .int .i64 0], .int .i64 2]) (by simp [results, Tryd.results37, go_sem]) rfl ⟨rfl, HB.out⟩
  by_cases h3 : den < 1
  · clear h
    go_enter Tryd.func37, Tryd.ntmps37
    go_wp2
    exact bodyPost_ret (v := .tuple #[.agg #[.int .i64 0, .int .i64 0, .int .i64 0, .int .i64 0, .int .i64 0, .int .i64 0, .int .i64 0], .int .i64 2]) (by simp [results, Tryd.results37, go_sem]) rfl ⟨rfl, HB.out⟩
  have h4 : 1000000000000 < den := by omega
  clear h
  go_enter Tryd.func37, Tryd.ntmps37
  go_wp2
  exact bodyPost_ret (v := .tuple #[.agg #[.int .i64 0, .int .i64 0, .int .i64 0, .int .i64 0, .int .i64 0, .int .i64 0, .int .i64 0], .int .i64 2]) (by simp [results, Tryd.results37, go_sem]) rfl ⟨rfl, HB.out⟩
set_option maxRecDepth 100000 in
set_option maxHeartbeats 4000000 in
theorem rOf_good (num den : Nat) (w : World) (h1 : 1 ≤ num) (h2 : num ≤ 1000000000000) (h3 : 1 ≤ den) (h4 : den ≤ 1000000000000) :
    Calls Tryd.prog 37 #[.int .i64 (num : Int), .int .i64 (den : Int)] w (RtPost w (ofW num den)) := by
  obtain ⟨lz, liff⟩ := zipWith_sub_eq (num := num) (den := den) (by omega) (by omega)
  obtain ⟨G, hG⟩ : ∃ G, G = Nat.gcd num den := ⟨_, rfl⟩
  have hgp : 1 ≤ G := by rw [hG]; exact Nat.gcd_pos_of_pos_left _ h1
  have hgn : G ≤ num := by rw [hG]; exact Nat.gcd_le_left _ h1
  have hgdv : G ∣ num := by rw [hG]; exact Nat.gcd_dvd_left _ _
  have hgdv2 : G ∣ den := by rw [hG]; exact Nat.gcd_dvd_right _ _
  have hgd : G ≤ den := Nat.le_of_dvd (by omega) hgdv2
  rw [← hG] at lz liff
  obtain ⟨N, hN⟩ : ∃ N, N = num / G := ⟨_, rfl⟩
  obtain ⟨D, hD⟩ : ∃ D, D = den / G := ⟨_, rfl⟩
  have hN1 : 1 ≤ N := by rw [hN]; exact Nat.div_pos hgn hgp
  have hD1 : 1 ≤ D := by rw [hD]; exact Nat.div_pos hgd hgp
  have hN2 : N ≤ num := by rw [hN]; exact Nat.div_le_self _ _
  have hD2 : D ≤ den := by rw [hD]; exact Nat.div_le_self _ _
  have hNI : (num : Int) / (G : Int) = (N : Int) := by rw [hN]; exact (Int.natCast_ediv num G).symm
  have hDI : (den : Int) / (G : Int) = (D : Int) := by rw [hD]; exact (Int.natCast_ediv den G).symm
  have hNt : (num : Int).tdiv (G : Int) = (N : Int) := by rw [hN]; exact (Int.ofNat_tdiv num G).symm
  have hDt : (den : Int).tdiv (G : Int) = (D : Int) := by rw [hD]; exact (Int.ofNat_tdiv den G).symm
  rw [← hN, ← hD] at lz liff
  have hW : ofW num den = if (sts ps6 N).1 = 1 ∧ (sts ps6 D).1 = 1 then (⟨V6.ofL (ofZ N D), 1⟩, 0) else (Rt.zero, 7) := by
    unfold ofW
    rw [if_pos (by omega), Int.toNat_natCast, Int.toNat_natCast, lz]
    by_cases h : (sts ps6 N).1 = 1 ∧ (sts ps6 D).1 = 1
    · rw [if_pos h, if_pos (liff.2 h)]
    · rw [if_neg h, if_neg (fun h' => h (liff.1 h'))]
  have hgc := fun W => rgcd_any num den W (by omega) (by omega)
  rw [← hG] at hgc
  generalize ofW num den = RW at *
  have HW := Lib.hid hW
  have HGC := Lib.hid hgc
  have eN : IntKind.i64.wrap (N : Int) = (N : Int) := IntWalk.i64_in _ (by omega)
  have eD : IntKind.i64.wrap (D : Int) = (D : Int) := IntWalk.i64_in _ (by omega)
  have hG0 : ¬ (G : Int) = 0 := by omega
  have hG0b : ((G : Int) == 0) = false := beq_false_of_ne hG0
  clear hW hgc lz liff hG hgdv hgdv2 hN hD
  have HR := Lib.hid (RowI.of_alloc w 40 [0, 0, 0, 0, 0, 0, 0])
  have HB := Lib.hid (belA w (.cells #[.int .i64 0, .int .i64 0, .int .i64 0, .int .i64 0, .int .i64 0, .int .i64 0, .int .i64 0] 40))
  go_enter Tryd.func37, Tryd.ntmps37
  go_wp2_with fail
  refine (HGC.out _).mono ?_
  rintro e w1 ⟨he, hdr⟩
  subst he
  have hr := HR.out.up hdr.below
  have hb := HB.out.trans (hdr.below.mono (by simp))
  clear HR HB hdr HGC
  have HR := Lib.hid hr
  have HB := Lib.hid hb
  have hz := hb.size
  have hlt := hr.lt
  clear hr hb
  go_wp2
  go_quiet (fail)
  have hdn : Below w1.heap.size w1 (w1.drewN nq) := Drawn.below ⟨nq, rfl⟩
  have hr := HR.out.up hdn
  have hb := HB.out.trans (hdn.mono hz)
  clear HR HB hz hlt hdn
  generalize w1.drewN nq = W1 at *
  have hz := hb.size
  have hlt := hr.lt
  have hr1 := hr.alloc (.cells #[.int .i64 0, .int .i64 0, .int .i64 0, .int .i64 0, .int .i64 0, .int .i64 0, .int .i64 1] 40)
  have hm0 : mixL (ofZ N D) zero6 0 ++ [1] = [0, 0, 0, 0, 0, 0, 1] := rfl
  have hr2 : RowI (W1.alloc (.cells #[.int .i64 0, .int .i64 0, .int .i64 0, .int .i64 0, .int .i64 0, .int .i64 0, .int .i64 1] 40)) W1.heap.size 40 (mixL (ofZ N D) zero6 0 ++ [1]) := by
    rw [hm0]
    exact RowI.of_alloc W1 40 [0, 0, 0, 0, 0, 0, 1]
  clear hm0
  have hb1 := hb.trans ((belA W1 (.cells #[.int .i64 0, .int .i64 0, .int .i64 0, .int .i64 0, .int .i64 0, .int .i64 0, .int .i64 1] 40)).mono hz)
  have HR1 := Lib.hid hr1
  have HR2 := Lib.hid hr2
  have HB := Lib.hid hb1
  clear hr hb hr1 hr2 hb1
  go_wp2_with fail
  refine (rPrimes_any _).mono ?_
  rintro e w2 ⟨he, hpr, hb2⟩
  subst he
  have hr1 := HR1.out.up hb2
  have hr2 := HR2.out.up hb2
  have hb := HB.out.trans (hb2.mono (by simp; omega))
  rw [World.size_alloc] at hpr ⊢
  clear HR1 HR2 HB hb2
  generalize hg1 : W1.heap.size = g1 at *
  clear hg1
  have HR1 := Lib.hid hr1
  have HR2 := Lib.hid hr2
  have HP := Lib.hid hpr
  have HB := Lib.hid hb
  clear hr1 hr2 hpr hb
  have hne1 : w.heap.size ≠ g1 := by omega
  have hne2 : g1 + 1 ≠ g1 := by omega
  go_wp2
  go_loopw [0, 1, 9] (fun nv dv iv wr => OaRel w g1 (g1 + 1) N D nv dv iv wr) (fun _ _ iv _ => 6 - (intOf iv).toNat)
  case atStart => exact ⟨0, Nat.zero_le _, rfl, rfl, rfl, HR1.out, HR2.out, HP.out, HB.out⟩
  case round =>
    clear HR1 HR2 HP HB
    obtain ⟨i, hi, rfl, rfl, rfl, hr1, hr2, hpr, hb⟩ := hrel
    obtain ⟨wo, rfl⟩ : ∃ wo : World, wo = wr := ⟨_, rfl⟩
    have HR1 := Lib.hid hr1
    have HR2 := Lib.hid hr2
    have HP := Lib.hid hpr
    have HB := Lib.hid hb
    clear hr1 hr2 hpr hb
    have hpt : ∀ p ∈ ps6.take i, primeN p := fun p hp => ps6_prime p (List.mem_of_mem_take hp)
    have an1 := sts_le _ hpt N (by omega)
    have an2 := sts_pos _ hpt N (by omega)
    have ad1 := sts_le _ hpt D (by omega)
    have ad2 := sts_pos _ hpt D (by omega)
    by_cases hil : i < 6
    · have hilI : (i : Int) < 6 := by omega
      have hiI : (0 : Int) ≤ (i : Int) := by omega
      obtain ⟨p, hpi⟩ : ∃ p, psI[i]? = some p := ⟨psI[i]'(by simpa [psI] using hil), List.getElem?_eq_getElem _⟩
      obtain ⟨q, rfl, hq, hq2, hq3⟩ := psI_nat i p hpi
      have htn := sts_snoc q (ps6.take i) N
      have htd := sts_snoc q (ps6.take i) D
      have htk : ps6.take (i + 1) = ps6.take i ++ [q] := by rw [List.take_add_one, hq]; rfl
      rw [← htk] at htn htd
      have hz := ofZ_at (num := N) (den := D) hq
      have hset := mixL_set (Z := ofZ N D) (O := zero6) (ofZ_len N D) hz
      have hl6 : (mixL (ofZ N D) zero6 i).length = 6 := by
        have := ofZ_len N D
        unfold mixL
        rw [List.length_append, List.length_take, List.length_drop, this]
        show min i 6 + (6 - i) = 6
        omega
      have h0i : (mixL (ofZ N D) zero6 i)[i]? = some 0 := by
        refine mixL_own (ofZ_len N D) ?_
        match i, hil with
        | 0, _ => rfl
        | 1, _ => rfl
        | 2, _ => rfl
        | 3, _ => rfl
        | 4, _ => rfl
        | 5, _ => rfl
      have hs0 : (mixL (ofZ N D) zero6 i).set i (0 + 1 * ((0 : Nat) : Int)) = mixL (ofZ N D) zero6 i := by
        apply List.ext_getElem?
        intro k
        rw [List.getElem?_set]
        by_cases hk : i = k
        · subst hk
          rw [if_pos rfl, if_pos (by omega), h0i]; rfl
        · rw [if_neg hk]
      have hza : (sts (ps6.take (i + 1)) N).1 = (st q (sts (ps6.take i) N).1).1 := congrArg Prod.fst htn
      have hzb : (sts (ps6.take (i + 1)) D).1 = (st q (sts (ps6.take i) D).1).1 := congrArg Prod.fst htd
      generalize (sts (ps6.take i) N).1 = a at *
      generalize (sts (ps6.take i) D).1 = b at *
      generalize mixL (ofZ N D) zero6 i = L at *
      have HPI := Lib.hid hpi
      have HZA := Lib.hid hza
      have HZB := Lib.hid hzb
      have HSET := Lib.hid hset
      have HL6 := Lib.hid hl6
      have HS0 := Lib.hid hs0
      have hq0 : ¬ (q : Int) = 0 := by omega
      have hq0b : ((q : Int) == 0) = false := beq_false_of_ne hq0
      clear hpi hq htn htd htk hz hset hl6 h0i hs0 hza hzb hpt
      go_wp2
      go_loopw [0] (fun nv wr => ObRel w g1 (g1 + 1) a q i 1 0 L nv wr) (fun nv _ => (intOf nv).toNat)
      case atStart => exact ⟨a, 0, rfl, by omega, by omega, rfl, HR1.out, by rw [HS0.out]; exact HR2.out, HP.out, HB.out⟩
      case round =>
        clear HR1 HR2 HP HB
        obtain ⟨m, t, rfl, hm1, hm2, hst, hr1, hr2, hpr, hb⟩ := hrel
        have HST := Lib.hid hst
        have HR1 := Lib.hid hr1
        have HR2 := Lib.hid hr2
        have HP := Lib.hid hpr
        have HB := Lib.hid hb
        have kp := hpr.cell HPI.out
        have hl7 : (L.set i (0 + 1 * (t : Int))).length = 6 := by rw [List.length_set]; exact HL6.out
        have kt := hr2.cell (i := i) (x := (t : Int)) (by rw [List.getElem?_append_left (by omega), List.getElem?_set_self (by rw [HL6.out]; exact hil)]; congr 1; omega)
        have ft := hr2.frozen i
        clear hst hr1 hr2 hpr hb hl7
        by_cases h : m % q = 0
        · have hr : (m : Int) % (q : Int) = 0 := by rw [← Int.natCast_emod, h]; rfl
          obtain ⟨u, hu⟩ : ∃ u, u = m / q := ⟨_, rfl⟩
          have huI : (m : Int) / (q : Int) = (u : Int) := by rw [hu]; exact (Int.natCast_ediv m q).symm
          have hlt : u < m := by rw [hu]; exact Nat.div_lt_self (by omega) (by omega)
          have hu0 : u ≠ 0 := by
            intro h0
            have := Nat.div_add_mod m q
            rw [← hu, h0, h] at this; simp at this; omega
          have hs2 : st q m = ((st q u).1, (st q u).2 + 1) := by rw [hu]; exact st_hit hq2 (by omega) h
          have HS2 := Lib.hid hs2
          clear hs2 hu h
          go_wp2
          refine ⟨⟨u, t + 1, rfl, by omega, by omega, ?_, HR1.out.other _ hne1, ?_, HP.out.other _ hne2, HB.out.setCell (by show w.heap.size ≤ g1; omega) _⟩, by simp [intOf]; omega⟩
          · rw [HST.out, HS2.out]
            show ((st q u).1, (st q u).2 + 1 + t) = ((st q u).1, (st q u).2 + (t + 1))
            rw [Nat.add_assoc, Nat.add_comm 1 t]
          · have h := HR2.out.set i ((t : Int) + 1)
            rw [List.set_append, if_pos (by rw [List.length_set, HL6.out]; exact hil), List.set_set] at h
            rw [show (0 : Int) + 1 * ((t + 1 : Nat) : Int) = (t : Int) + 1 by omega]
            exact h
        · obtain ⟨r, hr⟩ : ∃ r : Nat, r = m % q := ⟨_, rfl⟩
          have hrI : (m : Int) % (q : Int) = (r : Int) := by rw [hr]; exact (Int.natCast_emod m q).symm
          have hr0 : ¬ (r : Int) = 0 := by rw [hr]; omega
          have hs2 : st q m = (m, 0) := st_miss h
          have hsa : st q a = (m, t) := by rw [HST.out, hs2]; simp
          have HSA := Lib.hid hsa
          clear hs2 hr h hsa HST kt ft
          obtain ⟨w3, rfl⟩ : ∃ w3 : World, w3 = wr := ⟨_, rfl⟩
          go_wp2
          go_loopw [1] (fun nv wr => ObRel w g1 (g1 + 1) b q i (-1) (t : Int) L nv wr) (fun nv _ => (intOf nv).toNat)
          case atStart => exact ⟨b, 0, rfl, by omega, by omega, rfl, HR1.out, by have h := HR2.out; rw [show (t : Int) + -1 * ((0 : Nat) : Int) = 0 + 1 * (t : Int) by omega]; exact h, HP.out, HB.out⟩
          case round =>
            clear HR1 HR2 HP HB kp
            obtain ⟨m', t', rfl, hm1', hm2', hst', hr1, hr2, hpr, hb⟩ := hrel
            have HST := Lib.hid hst'
            have HR1 := Lib.hid hr1
            have HR2 := Lib.hid hr2
            have HP := Lib.hid hpr
            have HB := Lib.hid hb
            have kp := hpr.cell HPI.out
            have hl7 : (L.set i ((t : Int) + -1 * (t' : Int))).length = 6 := by rw [List.length_set]; exact HL6.out
            have kt := hr2.cell (i := i) (x := (t : Int) - (t' : Int)) (by rw [List.getElem?_append_left (by omega), List.getElem?_set_self (by rw [HL6.out]; exact hil)]; congr 1; omega)
            have ft := hr2.frozen i
            obtain ⟨V, hV⟩ : ∃ V : Int, (t : Int) - (t' : Int) = V := ⟨_, rfl⟩
            rw [hV] at kt
            have HV := Lib.hid hV
            have hVb : -1000000000000 ≤ V ∧ V ≤ 1000000000000 := by omega
            clear hst' hr1 hr2 hpr hb hl7 hV
            by_cases h : m' % q = 0
            · have hr : (m' : Int) % (q : Int) = 0 := by rw [← Int.natCast_emod, h]; rfl
              obtain ⟨u, hu⟩ : ∃ u, u = m' / q := ⟨_, rfl⟩
              have huI : (m' : Int) / (q : Int) = (u : Int) := by rw [hu]; exact (Int.natCast_ediv m' q).symm
              have hlt : u < m' := by rw [hu]; exact Nat.div_lt_self (by omega) (by omega)
              have hu0 : u ≠ 0 := by
                intro h0
                have := Nat.div_add_mod m' q
                rw [← hu, h0, h] at this; simp at this; omega
              have hs2 : st q m' = ((st q u).1, (st q u).2 + 1) := by rw [hu]; exact st_hit hq2 (by omega) h
              have HS2 := Lib.hid hs2
              clear hs2 hu h
              go_wp2
              refine ⟨⟨u, t' + 1, rfl, by omega, by omega, ?_, HR1.out.other _ hne1, ?_, HP.out.other _ hne2, HB.out.setCell (by show w.heap.size ≤ g1; omega) _⟩, by simp [intOf]; omega⟩
              · rw [HST.out, HS2.out]
                show ((st q u).1, (st q u).2 + 1 + t') = ((st q u).1, (st q u).2 + (t' + 1))
                rw [Nat.add_assoc, Nat.add_comm 1 t']
              · have h := HR2.out.set i (V - 1)
                rw [List.set_append, if_pos (by rw [List.length_set, HL6.out]; exact hil), List.set_set] at h
                rw [show (t : Int) + -1 * ((t' + 1 : Nat) : Int) = V - 1 by rw [← HV.out]; omega]
                exact h
            · obtain ⟨r', hr'⟩ : ∃ r : Nat, r = m' % q := ⟨_, rfl⟩
              have hrI' : (m' : Int) % (q : Int) = (r' : Int) := by rw [hr']; exact (Int.natCast_emod m' q).symm
              have hr0' : ¬ (r' : Int) = 0 := by rw [hr']; omega
              have hs2 : st q m' = (m', 0) := st_miss h
              have hsb : st q b = (m', t') := by rw [HST.out, hs2]; simp
              have HSB := Lib.hid hsb
              clear hs2 hr' h hsb HST kt ft
              go_wp2
              refine ⟨⟨i + 1, by omega, by go_num, by rw [HZA.out, HSA.out], by rw [HZB.out, HSB.out], HR1.out, ?_, HP.out, HB.out⟩, by simp [intOf]; omega⟩
              have h := HSET.out
              rw [HSA.out, HSB.out] at h
              have h2 := HR2.out
              rw [show (t : Int) + -1 * (t' : Int) = (t : Int) - (t' : Int) by omega, h] at h2
              exact h2
    · obtain rfl : i = 6 := by omega
      have htk : ps6.take 6 = ps6 := rfl
      rw [htk] at an1 an2 ad1 ad2 ⊢
      have hm : mixL (ofZ N D) zero6 6 = ofZ N D := by
        unfold mixL
        rw [List.take_of_length_le (by rw [ofZ_len]; omega), List.drop_of_length_le (by show 6 ≤ 6; omega), List.append_nil]
      have hr2 := HR2.out
      rw [hm] at hr2
      have hWE := HW.out
      have hl := ofZ_len N D
      clear hm HR2 HW htk HP hpt
      generalize ofZ N D = Z at *
      match Z, hl with
      | [z0, z1, z2, z3, z4, z5], _ =>
      generalize (sts ps6 N).1 = a at *
      generalize (sts ps6 D).1 = b at *
      have HWE := Lib.hid hWE
      clear hWE
      obtain ⟨c0, c1, c2, c3, c4, c5, c6⟩ := HR1.out.r7
      simp only [Nat.zero_add] at c0 c1 c2 c3 c4 c5 c6
      have f0 := HR1.out.frozen 0
      have f1 := HR1.out.frozen 1
      have f2 := HR1.out.frozen 2
      have f3 := HR1.out.frozen 3
      have f4 := HR1.out.frozen 4
      have f5 := HR1.out.frozen 5
      have f6 := HR1.out.frozen 6
      obtain ⟨d0, d1, d2, d3, d4, d5, d6⟩ := RowI.r7 (x0 := z0) (x1 := z1) (x2 := z2) (x3 := z3) (x4 := z4) (x5 := z5) (d := 1) hr2
      simp only [Nat.zero_add] at d0 d1 d2 d3 d4 d5 d6
      clear hr2
      by_cases hab : a = 1 ∧ b = 1
      · obtain ⟨rfl, rfl⟩ := hab
        have hWE := HWE.out
        rw [if_pos ⟨rfl, rfl⟩] at hWE
        have HWF := Lib.hid hWE
        clear hWE HWE
        go_wp2
        change bodyPost _ _ _ _ _ (putR wo w.heap.size z0 z1 z2 z3 z4 z5 1)
        clear c0 c1 c2 c3 c4 c5 c6
        obtain ⟨c0, c1, c2, c3, c4, c5, c6⟩ := (putR_row HR1.out z0 z1 z2 z3 z4 z5 1).r7
        have hB := putR_below HB.out (Nat.le_refl w.heap.size) z0 z1 z2 z3 z4 z5 1
        generalize putR wo w.heap.size z0 z1 z2 z3 z4 z5 1 = W' at *
        simp only [Nat.zero_add] at c0 c1 c2 c3 c4 c5 c6
        refine bodyPost_ret (v := .tuple #[.agg #[.int .i64 z0, .int .i64 z1, .int .i64 z2, .int .i64 z3, .int .i64 z4, .int .i64 z5, .int .i64 1], .int .i64 0]) (by simp [results, Tryd.results37, c0, c1, c2, c3, c4, c5, c6, go_sem]) rfl ⟨?_, hB⟩
        rw [HWF.out]
        rfl
      · have hWE := HWE.out
        rw [if_neg hab] at hWE
        have HWF := Lib.hid hWE
        clear hWE HWE d0 d1 d2 d3 d4 d5 d6
        by_cases ha : a = 1
        case' pos =>
          have hb1 : ¬ (b : Int) = 1 := by omega
          subst ha
        case' neg => have ha1 : ¬ (a : Int) = 1 := by omega
        all_goals
          clear hab
          go_wp2
          change bodyPost _ _ _ _ _ (putR wo w.heap.size 0 0 0 0 0 0 0)
          clear c0 c1 c2 c3 c4 c5 c6
          obtain ⟨c0, c1, c2, c3, c4, c5, c6⟩ := (putR_row HR1.out 0 0 0 0 0 0 0).r7
          have hB := putR_below HB.out (Nat.le_refl w.heap.size) 0 0 0 0 0 0 0
          generalize putR wo w.heap.size 0 0 0 0 0 0 0 = W' at *
          simp only [Nat.zero_add] at c0 c1 c2 c3 c4 c5 c6
          refine bodyPost_ret (v := .tuple #[.agg #[.int .i64 0, .int .i64 0, .int .i64 0, .int .i64 0, .int .i64 0, .int .i64 0, .int .i64 0], .int .i64 7]) (by simp [results, Tryd.results37, c0, c1, c2, c3, c4, c5, c6, go_sem]) rfl ⟨?_, hB⟩
          rw [HWF.out]
          rfl
theorem rOf_any (num den : Int) (w : World) : Calls Tryd.prog 37 #[.int .i64 num, .int .i64 den] w (RtPost w (ofW num den)) := by
  by_cases h : 1 ≤ num ∧ num ≤ 1000000000000 ∧ 1 ≤ den ∧ den ≤ 1000000000000
  · obtain ⟨h1, h2, h3, h4⟩ := h
    obtain ⟨n, rfl⟩ := Int.eq_ofNat_of_zero_le (show 0 ≤ num by omega)
    obtain ⟨d, rfl⟩ := Int.eq_ofNat_of_zero_le (show 0 ≤ den by omega)
    exact rOf_good n d w (by omega) (by omega) (by omega) (by omega)
  · exact rOf_bad num den w h
end Go.Proofs.YtlmcafcebidliaaDoor
