import Derived.Test.YtmmgbofhbnflkaaI9
import Derived.Deep.RegionWith
namespace Go.Proofs.Ytmmgbofhbnflkaa
open Go.RowKit

def divE (a b : Int × Int) : (Int × Int) × Int := if examI [a, b] = 0 then divW a b else ((0, 0), examI [a, b])
theorem Fm.turn {w w' : World} {g g' r : Nat} {x y z u : Value} (h : Fm w [(g, x, y), (g', z, u)] r w') (hg : w.heap.size ≤ g) (hg' : w.heap.size ≤ g') (hne : g ≠ g') (p q s t : Value) :
    Fm w [(g, p, q), (g', s, t)] r ((((w'.setCell ⟨g, 0, none⟩ p).setCell ⟨g, 1, none⟩ q).setCell ⟨g', 0, none⟩ s).setCell ⟨g', 1, none⟩ t) := by
  have n1 : g ≠ r := h.ne (g, x, y) List.mem_cons_self
  have n2 : g' ≠ r := h.ne (g', z, u) (List.mem_cons_of_mem _ List.mem_cons_self)
  obtain ⟨p', q', hr⟩ := h.res
  refine ⟨?_, ?_, ⟨p', q', (((hr.setOther (Ne.symm n1) 0 p).setOther (Ne.symm n1) 1 q).setOther (Ne.symm n2) 0 s).setOther (Ne.symm n2) 1 t⟩, Below.set2 (Below.set2 h.bl g hg p q) g' hg' s t, h.hr⟩
  · intro v hv
    simp at hv
    rcases hv with rfl | rfl
    · exact ((h.k0.set p q).setOther hne 0 s).setOther hne 1 t
    · exact ((h.k1.setOther (Ne.symm hne) 0 p).setOther (Ne.symm hne) 1 q).set s t
  · intro v hv
    simp at hv
    rcases hv with rfl | rfl
    · exact n1
    · exact n2
theorem floor_g : ∀ (x y : Int) (w : World), (-4611686018427387904 ≤ x ∧ x ≤ 4611686018427387904) → (1 ≤ y ∧ y ≤ 9223372036854775807) →
    Calls Try.prog 48 #[.int .i64 x, .int .i64 y] w fun e w' => e = .returned (.int .i64 (x / y)) ∧ w = w' := fun x y w h1 h2 => floor_any x y w h1 h2
theorem ceiling_g : ∀ (x y : Int) (w : World), (-4611686018427387904 ≤ x ∧ x ≤ 4611686018427387904) → (1 ≤ y ∧ y ≤ 9223372036854775807) →
    Calls Try.prog 49 #[.int .i64 x, .int .i64 y] w fun e w' => e = .returned (.int .i64 (upI x y)) ∧ w = w' := fun x y w h1 h2 => ceiling_any x y w h1 h2
theorem minus_g : ∀ (x y : Int) (w : World), okB x = true → okB y = true →
    Calls Try.prog 45 #[.agg #[.int .i64 x, .int .i64 y]] w fun e w' => e = .returned (.agg #[.int .i64 (-y), .int .i64 (-x)]) ∧ Below w.heap.size w w' := fun x y w h1 h2 => minus_any (x, y) w h1 h2

set_option maxRecDepth 100000 in
set_option maxHeartbeats 1000000 in
theorem div_any (a b : Int × Int) (w : World) (ha : I64 a.1 ∧ I64 a.2) (hb : I64 b.1 ∧ I64 b.2) :
    Calls Try.prog 18 #[ivV a, ivV b] w fun e w' => e = .returned (ivE (divE a b)) ∧ Below w.heap.size w w' := by
  have hex := fun W n hn => exam2_at a b W n hn ha hb
  have hno : ¬ examI [a, b] = 0 → ivE (divE a b) = .tuple #[.agg #[.int .i64 0, .int .i64 0], .int .i64 (examI [a, b])] := fun h => by unfold divE; rw [if_neg h]; rfl
  have hyes : examI [a, b] = 0 → divE a b = divW a b ∧ okB a.1 = true ∧ okB a.2 = true ∧ a.1 ≤ a.2 ∧ okB b.1 = true ∧ okB b.2 = true ∧ b.1 ≤ b.2 := fun h => by
    have h1 := examI_ok h a (by simp)
    have h2 := examI_ok h b (by simp)
    refine ⟨?_, h1.1, h1.2.1, h1.2.2, h2⟩
    unfold divE; rw [if_pos h]
  clear ha hb
  have HEX := Lib.hid hex
  clear hex
  obtain ⟨er, her⟩ : ∃ er, er = examI [a, b] := ⟨_, rfl⟩
  rw [← her] at HEX hno hyes
  clear her
  by_cases h0 : er = 0
  · subst h0
    obtain ⟨hE, ka1, ka2, ka, kb1, kb2, kb⟩ := hyes rfl
    rw [hE]
    clear hno hyes hE
    obtain ⟨a1, a2⟩ := a
    obtain ⟨b1, b2⟩ := b
    simp only at ka1 ka2 ka kb1 kb2 kb HEX
    have MM := Lib.hid minus_g
    have FL := Lib.hid floor_g
    have CE := Lib.hid ceiling_g
    have A1 := okB_iff.1 ka1
    have A2 := okB_iff.1 ka2
    have B1 := okB_iff.1 kb1
    have B2 := okB_iff.1 kb2
    unfold ivV
    simp only
    by_cases hz : b1 ≤ 0 ∧ 0 ≤ b2
    · have hR : ivE (divW (a1, a2) (b1, b2)) = .tuple #[.agg #[.int .i64 0, .int .i64 0], .int .i64 9] := by unfold divW; rw [if_pos hz]; rfl
      rw [hR]
      have t1 : decide (b1 ≤ 0) = true := decide_eq_true hz.1
      have t2 : decide (0 ≤ b2) = true := decide_eq_true hz.2
      clear hR hz A1 A2 B1 B2 ka kb
      go_enter Try.func18, Try.ntmps18
      go_wp2_with fail
      refine (HEX.out _ _ (by simp)).mono ?_
      rintro e w1 ⟨he, hb⟩
      subst he
      have F1 := Fm.of3 hb
      have c10 := F1.k0.c0
      have c11 := F1.k0.c1
      have c20 := F1.k1.c0
      have c21 := F1.k1.c1
      obtain ⟨p, q, hr⟩ := F1.res
      have c30 := hr.c0
      have c31 := hr.c1
      have f30 := hr.f0
      have f31 := hr.f1
      clear hb hr
      have FB := Lib.hid F1
      clear F1
      go_wp2_with fail
      refine bodyPost_ret (v := .tuple #[.agg #[.int .i64 0, .int .i64 0], .int .i64 9]) (by simp [results, Try.results18, c30, c31, go_sem]) rfl ⟨rfl, (FB.out.set _ _).bl⟩
    · by_cases hn : b2 < 0
      · have hR : ivE (divW (a1, a2) (b1, b2)) = .tuple #[.agg #[.int .i64 (min (-a2 / -b2) (-a2 / -b1)), .int .i64 (max (upI (-a1) (-b2)) (upI (-a1) (-b1)))], .int .i64 0] := by unfold divW; rw [if_neg hz, if_pos hn]; rfl
        rw [hR]
        have t1 : b1 ≤ 0 := by omega
        have t2 : decide (0 ≤ b2) = false := decide_eq_false (by omega)
        have t3 : b2 < 0 := hn
        clear hR hz hn
        go_enter Try.func18, Try.ntmps18
        go_wp2_with fail
        refine (HEX.out _ _ (by simp)).mono ?_
        rintro e w1 ⟨he, hb⟩
        subst he
        have F1 := Fm.of3 hb
        have c10 := F1.k0.c0
        have c11 := F1.k0.c1
        have c20 := F1.k1.c0
        have c21 := F1.k1.c1
        obtain ⟨p, q, hr⟩ := F1.res
        have c30 := hr.c0
        have c31 := hr.c1
        have f30 := hr.f0
        have f31 := hr.f1
        clear hb hr
        go_wp2_with fail
        go_region_with (first
          | (go_at_call 45; refine Calls.mono (MM.out _ _ _ (by assumption) (by assumption)) ?_; rintro e w2 ⟨he, hb2⟩; subst he; have hS := Fm.later (by first | assumption | exact Fm.drew ‹_›) hb2; have c1 := hS.k0.c0; have c2 := hS.k0.c1; have c3 := hS.k1.c0; have c4 := hS.k1.c1; have f1 := hS.k0.f0; have f2 := hS.k0.f1; have f3 := hS.k1.f0; have f4 := hS.k1.f1)
          | fail)
        all_goals
          have G1 := hS.turn (Nat.le_refl _) (Nat.le_add_right _ 1) (by omega) (.int .i64 (-a2)) (.int .i64 (-a1)) (.int .i64 (-b2)) (.int .i64 (-b1))
          clear c1 c2 c3 c4 f1 f2 f3 f4 hS F1 c10 c11 c20 c21 c30 c31 f30 f31
          generalize ((((w2.setCell ⟨w.heap.size, 0, none⟩ (.int .i64 (-a2))).setCell ⟨w.heap.size, 1, none⟩ (.int .i64 (-a1))).setCell ⟨w.heap.size + 1, 0, none⟩ (.int .i64 (-b2))).setCell ⟨w.heap.size + 1, 1, none⟩ (.int .i64 (-b1))) = w7 at *
          have c10 := G1.k0.c0
          have c11 := G1.k0.c1
          have c20 := G1.k1.c0
          have c21 := G1.k1.c1
          go_wp2_with fail
          go_quiet ((go_at_call 48; exact Calls.quiet_of_same ((FL.out _ _ _ (by omega) (by omega)).mono (fun e w' h => ⟨h.1, h.2.symm⟩))))
          have G2 := G1.drewN nq
          clear G1 c10 c11 c20 c21
          generalize w7.drewN nq = w8 at *
          have c10 := G2.k0.c0
          have c11 := G2.k0.c1
          have c20 := G2.k1.c0
          have c21 := G2.k1.c1
          go_wp2_with fail
          go_quiet ((go_at_call 49; exact Calls.quiet_of_same ((CE.out _ _ _ (by omega) (by omega)).mono (fun e w' h => ⟨h.1, h.2.symm⟩))))
          have G3 := G2.drewN nq
          clear G2 c10 c11 c20 c21
          generalize w8.drewN nq = w9 at *
          obtain ⟨p, q, hr⟩ := G3.res
          have c30 := hr.c0
          have c31 := hr.c1
          have f30 := hr.f0
          have f31 := hr.f1
          have FB := Lib.hid G3
          clear hr G3
          go_wp2_with fail
          refine bodyPost_ret (v := .tuple #[.agg #[.int .i64 (min (-a2 / -b2) (-a2 / -b1)), .int .i64 (max (upI (-a1) (-b2)) (upI (-a1) (-b1)))], .int .i64 0]) (by simp [results, Try.results18, c30, c31, go_sem]) rfl ⟨rfl, (FB.out.set _ _).bl⟩
      · have hR : ivE (divW (a1, a2) (b1, b2)) = .tuple #[.agg #[.int .i64 (min (a1 / b1) (a1 / b2)), .int .i64 (max (upI a2 b1) (upI a2 b2))], .int .i64 0] := by unfold divW; rw [if_neg hz, if_neg hn]; rfl
        rw [hR]
        have t1 : 0 < b1 := by omega
        have t3 : 0 ≤ b2 := by omega
        clear hR hz hn
        go_enter Try.func18, Try.ntmps18
        go_wp2_with fail
        refine (HEX.out _ _ (by simp)).mono ?_
        rintro e w1 ⟨he, hb⟩
        subst he
        have F1 := Fm.of3 hb
        have c10 := F1.k0.c0
        have c11 := F1.k0.c1
        have c20 := F1.k1.c0
        have c21 := F1.k1.c1
        obtain ⟨p, q, hr⟩ := F1.res
        have c30 := hr.c0
        have c31 := hr.c1
        have f30 := hr.f0
        have f31 := hr.f1
        clear hb hr
        go_wp2_with fail
        clear c30 c31 f30 f31
        go_quiet ((go_at_call 48; exact Calls.quiet_of_same ((FL.out _ _ _ (by omega) (by omega)).mono (fun e w' h => ⟨h.1, h.2.symm⟩))))
        have G2 := F1.drewN nq
        clear F1 c10 c11 c20 c21
        generalize w1.drewN nq = w8 at *
        have c10 := G2.k0.c0
        have c11 := G2.k0.c1
        have c20 := G2.k1.c0
        have c21 := G2.k1.c1
        go_wp2_with fail
        go_quiet ((go_at_call 49; exact Calls.quiet_of_same ((CE.out _ _ _ (by omega) (by omega)).mono (fun e w' h => ⟨h.1, h.2.symm⟩))))
        have G3 := G2.drewN nq
        clear G2 c10 c11 c20 c21
        generalize w8.drewN nq = w9 at *
        obtain ⟨p, q, hr⟩ := G3.res
        have c30 := hr.c0
        have c31 := hr.c1
        have f30 := hr.f0
        have f31 := hr.f1
        have FB := Lib.hid G3
        clear hr G3
        go_wp2_with fail
        refine bodyPost_ret (v := .tuple #[.agg #[.int .i64 (min (a1 / b1) (a1 / b2)), .int .i64 (max (upI (a2) (b1)) (upI (a2) (b2)))], .int .i64 0]) (by simp [results, Try.results18, c30, c31, go_sem]) rfl ⟨rfl, (FB.out.set _ _).bl⟩
  · have hR := hno h0
    rw [hR]
    clear hyes hR hno
    unfold ivV
    have q1 : (er == 0) = false := by simp [h0]
    have q2 : (er != 0) = true := by simp [h0]
    clear h0
    go_enter Try.func18, Try.ntmps18
    go_wp2_with fail
    refine (HEX.out _ _ (by simp)).mono ?_
    rintro e w1 ⟨he, hb⟩
    subst he
    have F1 := Fm.of3 hb
    obtain ⟨p, q, hr⟩ := F1.res
    have c30 := hr.c0
    have c31 := hr.c1
    have f30 := hr.f0
    have f31 := hr.f1
    have FB := Lib.hid F1
    clear hb F1 hr
    go_wp2_with fail
    refine bodyPost_ret (v := .tuple #[.agg #[.int .i64 0, .int .i64 0], .int .i64 er]) (by simp [results, Try.results18, c30, c31, go_sem]) rfl ⟨rfl, (FB.out.set _ _).bl⟩
end Go.Proofs.Ytmmgbofhbnflkaa
