import Derived.Test.YtmmgbofhbnflkaaYRC
namespace Go.Proofs.Ytmmgbofhbnflkaa
open Go.RowKit

/-! The reference's power. -/
def RPw (w : World) (m k : Nat) (e : Ending) (w' : World) : Prop :=
  ∃ (A : Option Addr) (n c : Nat), e = .returned (.tuple #[.slice A n c, .bool (decide ((dg (m ^ k)).length ≤ 512))]) ∧ Num w' w'.heap.size (.slice A n c) (if (dg (m ^ k)).length ≤ 512 then m ^ k else 0) ∧ Below w.heap.size w w'
def PwRel (w : World) (m K : Nat) (o i : Value) (wr : World) : Prop :=
  ∃ (j : Nat) (A : Option Addr) (n c : Nat), j ≤ K ∧ i = .int .i64 (j : Int) ∧ o = .slice A n c ∧ Num wr wr.heap.size (.slice A n c) (m ^ j) ∧ (dg (m ^ j)).length ≤ 512 ∧ Below w.heap.size w wr
theorem pow_small {m k : Nat} (hm : m ≤ 1) : m ^ (min k 1) = m ^ k := by
  rcases Nat.eq_zero_or_pos k with h | h
  · rw [h]; rfl
  · rw [Nat.min_eq_right h, Nat.pow_one]
    have h1 : m = 0 ∨ m = 1 := by omega
    rcases h1 with rfl | rfl
    · rw [Nat.zero_pow h]
    · rw [Nat.one_pow]
theorem times_forms {va vb : Value} {m n : Nat} {W : World} (ha : Num W W.heap.size va m) (hb : Num W W.heap.size vb n) (h1 : (dg m).length ≤ 1000000) (h2 : (dg n).length ≤ 1000000) :
    Calls Try.prog 76 #[va, vb] W fun e w' => ∃ A c, e = .returned (.slice A (dg (m * n)).length c) ∧ Num w' w'.heap.size (.slice A (dg (m * n)).length c) (m * n) ∧ Below W.heap.size W w' :=
  (rtimes_num ha hb h1 h2).mono fun e w' ⟨v, he, hn, hb⟩ => by
    obtain ⟨A, c, rfl, -⟩ := hn.form
    exact ⟨A, c, he, hn, hb⟩

theorem of_one_forms (W : World) : Calls Try.prog 60 #[.int .u64 1] W fun e w' => ∃ A n c, e = .returned (.slice A n c) ∧ Num w' w'.heap.size (.slice A n c) 1 ∧ Below W.heap.size W w' :=
  (rone_any W).mono fun e w' ⟨v, he, hn, hb, _⟩ => by
    obtain ⟨A, c, rfl, -⟩ := hn.form
    exact ⟨A, _, c, he, hn, hb⟩
theorem pow_len_mono {m i k : Nat} (hm : 0 < m) (h : i ≤ k) : (dg (m ^ i)).length ≤ (dg (m ^ k)).length := dg_mono (Nat.pow_le_pow_right hm h)

set_option maxRecDepth 100000 in
set_option maxHeartbeats 2000000 in
theorem rpower_any (va : Value) (m k : Nat) (w : World) (ha : Num w w.heap.size va m) (hla : (dg m).length ≤ 512) (hk : k ≤ 100000) :
    Calls Try.prog 80 #[va, .int .i64 (k : Int)] w (RPw w m k) := by
  have hone := fun W => of_one_forms W
  have HONE := Lib.hid hone
  clear hone
  obtain ⟨A, capa, rfl, -⟩ := ha.form
  have hord := fun W v (hb : Below w.heap.size w W) (hv : Num W W.heap.size v 1) => rorder_num (ha.up hb) hv (by omega) (by rw [len_one]; omega)
  have htm := fun W v j (hb : Below w.heap.size w W) (hv : Num W W.heap.size v (m ^ j)) (hl : (dg (m ^ j)).length ≤ 512) => times_forms hv (ha.up hb) (by omega) (by omega)
  have HORD := Lib.hid hord
  have HTM := Lib.hid htm
  clear hord htm ha hla
  generalize (dg m).length = la at *
  have k0 : (0 : Int) ≤ (k : Int) := Int.natCast_nonneg _
  have kb : k < 4294967296 := by omega
  have HLOOP : ∀ (P : Nat → Prop), True := fun _ => trivial
  clear HLOOP
  by_cases hm : m ≤ 1
  · have hc : cmpI m 1 ≤ 0 := by unfold cmpI; repeat' split
                                 all_goals omega
    obtain ⟨c, hcc⟩ : ∃ c, c = cmpI m 1 := ⟨_, rfl⟩
    rw [← hcc] at hc HORD
    obtain ⟨K, hK⟩ : ∃ K, K = min k 1 := ⟨_, rfl⟩
    have hKi : min (k : Int) 1 = (K : Int) := by rw [hK]; omega
    have hpow : m ^ k = m ^ K := by rw [hK, pow_small hm]
    have hlen : (dg (m ^ K)).length ≤ 512 := by
      have : m ^ K ≤ 1 := by
        have := Nat.pow_le_pow_left hm K
        rw [Nat.one_pow] at this; exact this
      have := dg_mono this
      rw [len_one] at this
      omega
    have hK1 : K ≤ 1 := by omega
    have HP := Lib.hid hpow
    have HL := Lib.hid hlen
    have HM1 := Lib.hid hm
    clear hcc hpow hlen hK hm
    go_enter Try.func80, Try.ntmps80
    go_wp2_with fail
    refine (HONE.out w).mono ?_
    rintro e w1 ⟨B, n1, c1, he, hn1, hb1⟩
    subst he
    go_wp2_with fail
    refine (HORD.out w1 _ hb1 hn1).mono ?_
    rintro e w2 ⟨he, rfl⟩
    subst he
    go_wp2_with fail
    go_loopw [6, 7] (fun o i wr => PwRel w m K o i wr) (fun _ i _ => K - (intOf i).toNat)
    case atStart => exact ⟨0, B, n1, c1, Nat.zero_le _, rfl, rfl, by rw [Nat.pow_zero]; exact hn1, by rw [Nat.pow_zero, len_one]; omega, hb1⟩
    case round =>
      obtain ⟨j, A1, n, c1, hj, rfl, rfl, hnum, hl, hb⟩ := hrel
      have j0 : (0 : Int) ≤ (j : Int) := Int.natCast_nonneg _
      by_cases hlt : j < K
      · have hcall := Lib.hid (HTM.out wr _ j hb hnum hl)
        have hjK : (j : Int) < (K : Int) := by omega
        have hlen1 : (dg (m ^ j * m)).length ≤ 512 := by
          rw [show m ^ j * m = m ^ (j + 1) from (Nat.pow_succ ..).symm]
          have h1 : m ^ (j + 1) ≤ 1 := by
            have := Nat.pow_le_pow_left HM1.out (j + 1)
            rw [Nat.one_pow] at this; exact this
          have := dg_mono h1
          rw [len_one] at this
          omega
        have HL1 := Lib.hid hlen1
        have HB := Lib.hid hb
        clear hlen1 hl hnum hb
        go_wp2_with fail
        refine hcall.out.mono ?_
        rintro e w3 ⟨A2, c2, he, hn2, hb2⟩
        subst he
        have HN2 := Lib.hid hn2
        have HB2 := Lib.hid (HB.out.trans (hb2.mono HB.out.size))
        clear hn2 hb2
        obtain ⟨ln, hln⟩ : ∃ ln, ln = (dg (m ^ j * m)).length := ⟨_, rfl⟩
        have HLN := Lib.hid hln
        have hno : ¬ (512 : Int) < (ln : Int) := by have := HL1.out; omega
        rw [← hln] at HN2 ⊢
        clear hln
        go_wp2_with fail
        go_roundw
        case rel => exact ⟨j + 1, A2, ln, c2, by omega, by go_num, rfl, by rw [Nat.pow_succ]; exact HN2.out, by rw [Nat.pow_succ, ← HLN.out]; omega, HB2.out⟩
        case measure => simp [intOf]; omega
      · obtain rfl : j = K := by omega
        have HN := Lib.hid hnum
        have HB := Lib.hid hb
        clear hnum hb hl
        go_wp2_with fail
        go_ret2
        refine ⟨A1, n, c1, by rw [HP.out, decide_eq_true HL.out]; rfl, ?_, HB.out⟩
        rw [HP.out, if_pos HL.out]
        exact HN.out
  · have hc : ¬ cmpI m 1 ≤ 0 := by unfold cmpI; repeat' split
                                   all_goals omega
    obtain ⟨c, hcc⟩ : ∃ c, c = cmpI m 1 := ⟨_, rfl⟩
    rw [← hcc] at hc HORD
    have HM := Lib.hid (show 0 < m by omega)
    clear hcc hm
    go_enter Try.func80, Try.ntmps80
    go_wp2_with fail
    refine (HONE.out w).mono ?_
    rintro e w1 ⟨B, n1, c1, he, hn1, hb1⟩
    subst he
    go_wp2_with fail
    refine (HORD.out w1 _ hb1 hn1).mono ?_
    rintro e w2 ⟨he, rfl⟩
    subst he
    go_wp2_with fail
    go_loopw [6, 7] (fun o i wr => PwRel w m k o i wr) (fun _ i _ => k - (intOf i).toNat)
    case atStart => exact ⟨0, B, n1, c1, Nat.zero_le _, rfl, rfl, by rw [Nat.pow_zero]; exact hn1, by rw [Nat.pow_zero, len_one]; omega, hb1⟩
    case round =>
      obtain ⟨j, A1, n, c1, hj, rfl, rfl, hnum, hl, hb⟩ := hrel
      have j0 : (0 : Int) ≤ (j : Int) := Int.natCast_nonneg _
      by_cases hlt : j < k
      · have hcall := Lib.hid (HTM.out wr _ j hb hnum hl)
        have hjK : (j : Int) < (k : Int) := by omega
        have hmono := pow_len_mono HM.out hlt
        rw [Nat.pow_succ] at hmono
        have HMO := Lib.hid hmono
        have HB := Lib.hid hb
        clear hmono hl hnum hb
        go_wp2_with fail
        refine hcall.out.mono ?_
        rintro e w3 ⟨A2, c2, he, hn2, hb2⟩
        subst he
        have HN2 := Lib.hid hn2
        have HB2 := Lib.hid (HB.out.trans (hb2.mono HB.out.size))
        clear hn2 hb2
        have hln : ∃ ln, ln = (dg (m ^ j * m)).length := ⟨_, rfl⟩
        obtain ⟨ln, hln⟩ := hln
        have HLN := Lib.hid hln
        rw [← hln] at HN2 ⊢
        clear hln
        by_cases hbig : 512 < ln
        · have hbi : (512 : Int) < (ln : Int) := by omega
          go_wp2_with fail
          go_ret2
          have hno : ¬ (dg (m ^ k)).length ≤ 512 := by have := HMO.out; have := HLN.out; omega
          refine ⟨none, 0, 0, by rw [decide_eq_false hno]; rfl, ?_, HB2.out⟩
          rw [if_neg hno]
          exact Num.zero _ _
        · have hbi : ¬ (512 : Int) < (ln : Int) := by omega
          go_wp2_with fail
          go_roundw
          case rel => exact ⟨j + 1, A2, ln, c2, by omega, by go_num, rfl, by rw [Nat.pow_succ]; exact HN2.out, by rw [Nat.pow_succ, ← HLN.out]; omega, HB2.out⟩
          case measure => simp [intOf]; omega
      · obtain rfl : j = k := by omega
        have HN := Lib.hid hnum
        have HL := Lib.hid hl
        have HB := Lib.hid hb
        clear hnum hb hl
        go_wp2_with fail
        go_ret2
        refine ⟨A1, n, c1, by rw [decide_eq_true HL.out]; rfl, ?_, HB.out⟩
        rw [if_pos HL.out]
        exact HN.out
end Go.Proofs.Ytmmgbofhbnflkaa
