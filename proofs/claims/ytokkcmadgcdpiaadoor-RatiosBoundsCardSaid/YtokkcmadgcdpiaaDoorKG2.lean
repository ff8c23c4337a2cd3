import Derived.Test.YtokkcmadgcdpiaaDoorKG1
namespace Go.Proofs.YtokkcmadgcdpiaaDoor
open Go.RowKit

/-! The law that the sign is that of the products. -/
theorem TmI.up {w w' : World} {v : Value} {l : List (Int × Int)} (h : TmI w w.heap.size v l) (hb : Below w.heap.size w w') : TmI w' w'.heap.size v l := by
  obtain ⟨A, cap, e, hc, hh⟩ := h.keep hb
  refine ⟨A, cap, e, hc, fun hne => ?_⟩
  obtain ⟨g, o, e2, hg, hx⟩ := hh hne
  exact ⟨g, o, e2, Nat.lt_of_lt_of_le hg hb.size, hx⟩
theorem pow_to {a k m : Nat} (h : a ≤ 2 ^ k) (hk : k ≤ m) : a ≤ 2 ^ m := Nat.le_trans h (Nat.pow_le_pow_right (by omega) hk)
theorem sgn_cmpI (l : List (Nat × Int)) : sgnP l = Wd.cmpI (upP l) (dnP l) := by
  unfold sgnP Wd.cmpI
  by_cases h1 : upP l = dnP l
  · rw [if_pos h1, if_neg (by omega), if_pos h1]
  · rw [if_neg h1]
    by_cases h2 : dnP l < upP l
    · rw [if_pos h2, if_neg (by omega), if_neg h1]
    · rw [if_neg h2, if_pos (by omega)]
theorem scL_one (l : List (Nat × Int)) : scL ((1 : Nat) : Int) l = l := by simp [scL]
theorem exam_sz {l : List (Int × Int)} (h : szOk l) (hl : l.length ≤ 6) : examE l = 0 := by
  unfold examE
  rw [if_neg (by omega), if_pos]
  rw [List.all_eq_true]
  intro x hx
  obtain ⟨h1, h2, h3, h4⟩ := h x hx
  unfold termOk wiB
  simp only [Bool.and_eq_true, decide_eq_true_eq]
  omega
set_option maxRecDepth 100000 in
set_option maxHeartbeats 2000000 in
theorem lawExact_any (A : Option Addr) (n cap : Nat) (l : List (Int × Int)) (w : World) (hp : PrL w) (h : n ≤ 6 → TmI w w.heap.size (.slice A n cap) l) :
    Calls Tryd.prog 8 #[.slice A n cap] w fun e w' => e = .returned (.bool true) ∧ Below w.heap.size w w' := by
  have hsz := size_any A n cap l w h
  have HSZ := Lib.hid hsz
  have HP := Lib.hid hp
  have HV := Lib.hid h
  clear hsz hp h
  go_enter Tryd.func8, Tryd.ntmps8
  go_wp2_with fail
  refine HSZ.out.mono ?_
  rintro e w1 ⟨s, he, hs, hb⟩
  subst he
  have HB := Lib.hid hb
  have HS := Lib.hid hs
  clear hb hs HSZ
  by_cases hs8 : 8000 < s
  case pos =>
    clear HS
    go_wp2_with fail
    refine (awake_any _ (HP.out.below HB.out)).mono ?_
    rintro e w2 ⟨he, hb⟩
    subst he
    have HB2 := Lib.hid (HB.out.trans (hb.mono HB.out.size))
    clear hb
    go_wp2
    go_ret
    exact ⟨rfl, HB2.out⟩
  obtain ⟨hn, hok, k, hk, -, hex, hall⟩ : n ≤ 6 ∧ szOk l ∧ ∃ k : Nat, s = (k : Int) ∧ k ≤ 400000 ∧ (∀ x ∈ l, x.2.natAbs ≤ k) ∧ allP (natT l) ≤ 2 ^ k := by
    rcases HS.out with h | h
    · omega
    · exact h
  have hv := HV.out hn
  have hln : n = l.length := by obtain ⟨A', cap', e, -, -⟩ := hv; cases e; rfl
  have he0 := exam_sz hok (by omega)
  have hsg : ∀ W, Below w.heap.size w W → Calls Tryd.prog 12 #[.slice A n cap] W fun e w' => e = .returned (.tuple #[.int .i64 (sgnP (natT l)), .int .i64 0]) ∧ Below W.heap.size W w' := fun W hW => by
    refine (Sign_any (.slice A n cap) l W (TmI.up hv hW) (by omega)).mono ?_
    rintro e w' ⟨h1, h2⟩
    rw [he0, if_pos rfl] at h1
    exact ⟨h1, h2⟩
  have hp8 := pow_to (m := 8000) hall (by omega)
  have hpd : ∀ W, Below w.heap.size w W → Calls Tryd.prog 39 #[.slice A n cap, .int .i64 1] W fun e w' => ∃ u d, e = .returned (.tuple #[u, d, .bool true]) ∧ Wd.Arg w' u (Wd.dg (upP (natT l))) ∧ Wd.Arg w' d (Wd.dg (dnP (natT l))) ∧ Below W.heap.size W w' := fun W hW => by
    have h1 := products_any A n cap l 1 W (TmI.up hv hW) hn hok (by omega) (by omega) (fun x hx => by have := hex x hx; omega) (by rw [scL_one]; exact hp8)
    rw [scL_one] at h1
    exact h1
  have hps : posN (natT l) := by have := posT hok ((1 : Nat) : Int); rwa [scL_one] at this
  have hlu := dg512 (k := k) (Nat.le_trans (up_le_all hps) hall) (by omega)
  have hld := dg512 (k := k) (Nat.le_trans (dn_le_all hps) hall) (by omega)
  rw [sgn_cmpI] at hsg
  have HSG := Lib.hid hsg
  have HPD := Lib.hid hpd
  have HLU := Lib.hid hlu
  have HLD := Lib.hid hld
  clear hk hok hex hall hv hln he0 hsg hpd hp8 hps hlu hld HS HV
  go_wp2_with fail
  refine (HSG.out _ HB.out).mono ?_
  rintro e w2 ⟨he, hb⟩
  subst he
  have hb2 := HB.out.trans (hb.mono HB.out.size)
  clear HB hb HSG
  have HB := Lib.hid hb2
  clear hb2
  go_wp2_with fail
  refine (HPD.out _ HB.out).mono ?_
  rintro e w3 ⟨u, d, he, hu, hd, hb⟩
  subst he
  have hb2 := HB.out.trans (hb.mono HB.out.size)
  clear HB hb HPD
  have HB := Lib.hid hb2
  have HU := Lib.hid hu
  have HD := Lib.hid hd
  clear hb2 hu hd
  go_wp2_with fail
  refine (Wd.nCmp HU.out HD.out HLU.out HLD.out).mono ?_
  rintro e w4 ⟨he, hb⟩
  subst he
  have hb2 := HB.out.trans (hb.mono HB.out.size)
  clear HB hb HU HD HLU HLD
  have HB := Lib.hid hb2
  clear hb2
  generalize Wd.cmpI (upP (natT l)) (dnP (natT l)) = C at *
  go_wp2_with fail
  refine (awake_any _ (HP.out.below HB.out)).mono ?_
  rintro e w5 ⟨he, hb⟩
  subst he
  have HB2 := Lib.hid (HB.out.trans (hb.mono HB.out.size))
  clear hb
  go_wp2
  go_ret
  exact ⟨rfl, HB2.out⟩
end Go.Proofs.YtokkcmadgcdpiaaDoor
