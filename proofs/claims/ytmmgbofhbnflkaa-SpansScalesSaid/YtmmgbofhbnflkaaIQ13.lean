import Derived.Test.YtmmgbofhbnflkaaIQ12
namespace Go.Proofs.Ytmmgbofhbnflkaa
open Go.RowKit

/-! The reference's Pi. -/
theorem span4 {ys : List FV} {c : Nat → Int} {d : Nat} (hd : d ≠ 0) (hl : ys.length = 4) (hy : ∀ (k : Nat) (y : FV), ys[k]? = some y → y.D ≠ 0 ∧ y.N * (d : Int) = c k * (y.D : Int)) {x y : FV} (hxm : x ∈ ys) (hym : y ∈ ys)
    (hall : ∀ z ∈ ys, x.N * (z.D : Int) ≤ z.N * (x.D : Int) ∧ z.N * (y.D : Int) ≤ y.N * (z.D : Int)) : x.N / (x.D : Int) = min (min (c 0) (c 1)) (min (c 2) (c 3)) / (d : Int) ∧ upI y.N (y.D : Int) = upI (max (max (c 0) (c 1)) (max (c 2) (c 3))) (d : Int) := by
  obtain ⟨i, hi⟩ := List.mem_iff_getElem?.1 hxm
  obtain ⟨j, hj⟩ := List.mem_iff_getElem?.1 hym
  have hi4 : i < 4 := by rw [← hl]; exact (List.getElem?_eq_some_iff.1 hi).1
  have hj4 : j < 4 := by rw [← hl]; exact (List.getElem?_eq_some_iff.1 hj).1
  have hx := hy i x hi
  have hy' := hy j y hj
  have hle : ∀ k, k < 4 → c i ≤ c k ∧ c k ≤ c j := by
    intro k hk
    have hz : ys[k]? = some (ys[k]'(by omega)) := List.getElem?_eq_getElem (by omega)
    have hzz := hy k _ hz
    obtain ⟨l1, l2⟩ := hall _ (List.mem_of_getElem? hz)
    have e1 := cross_trans (N1 := c i) (D1 := d) (N2 := x.N) (D2 := x.D) (N3 := (ys[k]'(by omega)).N) (D3 := (ys[k]'(by omega)).D) hx.1 (Int.le_of_eq hx.2.symm) l1
    have e2 := cross_trans (N1 := c i) (D1 := d) (N2 := (ys[k]'(by omega)).N) (D2 := (ys[k]'(by omega)).D) (N3 := c k) (D3 := d) hzz.1 e1 (Int.le_of_eq hzz.2)
    have e3 := cross_trans (N1 := c k) (D1 := d) (N2 := (ys[k]'(by omega)).N) (D2 := (ys[k]'(by omega)).D) (N3 := y.N) (D3 := y.D) hzz.1 (Int.le_of_eq hzz.2.symm) l2
    have e4 := cross_trans (N1 := c k) (D1 := d) (N2 := y.N) (D2 := y.D) (N3 := c j) (D3 := d) hy'.1 e3 (Int.le_of_eq hy'.2)
    have p : (0 : Int) < (d : Int) := by omega
    exact ⟨Int.le_of_mul_le_mul_right e2 p, Int.le_of_mul_le_mul_right e4 p⟩
  have g0 := hle 0 (by omega)
  have g1 := hle 1 (by omega)
  have g2 := hle 2 (by omega)
  have g3 := hle 3 (by omega)
  rw [floor_same hx.1 hd hx.2, up_same hy'.1 hd hy'.2]
  constructor
  · have : min (min (c 0) (c 1)) (min (c 2) (c 3)) = c i := by
      have hc : i = 0 ∨ i = 1 ∨ i = 2 ∨ i = 3 := by omega
      rcases hc with rfl | rfl | rfl | rfl <;> omega
    rw [this]
  · have : max (max (c 0) (c 1)) (max (c 2) (c 3)) = c j := by
      have hc : j = 0 ∨ j = 1 ∨ j = 2 ∨ j = 3 := by omega
      rcases hc with rfl | rfl | rfl | rfl <;> omega
    rw [this]
/-- The two fractions lie in a block. -/
theorem at2 (w : World) (x y : FV) : ∀ (k : Nat) (z : FV), [x, y][k]? = some z → FvAt (w.alloc (.cells #[.bool x.s, .slice x.A x.n x.c, .slice x.B x.m x.d, .bool y.s, .slice y.A y.n y.c, .slice y.B y.m y.d] 61)) w.heap.size k z := by
  intro k z hz
  have hrow := World.alloc_heap_new w (.cells #[.bool x.s, .slice x.A x.n x.c, .slice x.B x.m x.d, .bool y.s, .slice y.A y.n y.c, .slice y.B y.m y.d] 61)
  match k, hz with
  | 0, hz => simp at hz; subst hz; exact ⟨by rw [Go.Joins.cell_of_block hrow]; rfl, by rw [Go.Joins.cell_of_block hrow]; rfl, by rw [Go.Joins.cell_of_block hrow]; rfl⟩
  | 1, hz => simp at hz; subst hz; exact ⟨by rw [Go.Joins.cell_of_block hrow]; rfl, by rw [Go.Joins.cell_of_block hrow]; rfl, by rw [Go.Joins.cell_of_block hrow]; rfl⟩
  | k + 2, hz => simp at hz
/-- pis of two fractions, then Span. -/
theorem pis2 (w : World) (L : Nat) (x y : FV) (hL : L ≤ 400) (hx : x.ok w L) (hy : y.ok w L) :
    Calls Try.prog 64 #[.slice (some ⟨w.heap.size, 0, none⟩) 2 2] (w.alloc (.cells #[.bool x.s, .slice x.A x.n x.c, .slice x.B x.m x.d, .bool y.s, .slice y.A y.n y.c, .slice y.B y.m y.d] 61)) fun e w' => ∃ (g cap : Nat) (ys : List FV), e = .returned (.slice (some ⟨g, 0, none⟩) 4 cap) ∧ ys.length = 4 ∧ g < w'.heap.size ∧ (∀ (k : Nat) (z : FV), ys[k]? = some z → FvAt w' g k z ∧ z.ok w' (L + 4) ∧ PiP [x, y] k z) ∧ Below w.heap.size w w' := by
  have hb : Below w.heap.size w (w.alloc (.cells #[.bool x.s, .slice x.A x.n x.c, .slice x.B x.m x.d, .bool y.s, .slice y.A y.n y.c, .slice y.B y.m y.d] 61)) := Below.one w _
  have h := pis_any w.heap.size 2 L [x, y] (w.alloc (.cells #[.bool x.s, .slice x.A x.n x.c, .slice x.B x.m x.d, .bool y.s, .slice y.A y.n y.c, .slice y.B y.m y.d] 61)) hL (by simp) (by simp) (by simp) (at2 w x y) (fun z hz => by
    simp at hz
    rcases hz with rfl | rfl
    · exact FQ.up hx hb
    · exact FQ.up hy hb)
  exact h.mono fun e w' ⟨g, cap, ys, he, hl, hg, hat, hbl⟩ => ⟨g, cap, ys, by rw [he, hl]; rfl, hl, hg, hat, Below.after hb hbl⟩
theorem span_of {w : World} {L g cap : Nat} {ys : List FV} (hL : L ≤ 512) (hl : ys.length = 4) (hg : g < w.heap.size) (hy : ∀ (k : Nat) (z : FV), ys[k]? = some z → FvAt w g k z ∧ z.ok w L) :
    Calls Try.prog 54 #[.slice (some ⟨g, 0, none⟩) 4 cap] w (SpPost w ys) := by
  have h := Span_any g cap L ys w hL (by omega) hg (fun k x hx => (hy k x hx).1) (fun x hx => by obtain ⟨k, hk⟩ := List.mem_iff_getElem?.1 hx; exact (hy k x hk).2)
  rw [hl] at h
  exact h
def piC (p q : Int) (k : Nat) : Int := (if k / 2 = 0 then p else q) * piB (k % 2)
theorem pi_span {w : World} {L d : Nat} {ys : List FV} {x y : FV} {p q : Int} (hd : d ≠ 0) (hl : ys.length = 4) (hy : ∀ (k : Nat) (z : FV), ys[k]? = some z → z.ok w L ∧ PiP [x, y] k z) (hx0 : x.D ≠ 0) (hy0 : y.D ≠ 0) (hx : x.N * (d : Int) = p * (x.D : Int)) (hyy : y.N * (d : Int) = q * (y.D : Int)) {e : Ending} {W W' : World} (h : SpPost W ys e W') :
    e = .returned (ivE (prodsW (p, q) piL ((d * piOne : Nat) : Int))) ∧ Below W.heap.size W W' := by
  obtain ⟨u, v, hum, hvm, hall, he, hb⟩ := h
  have hone : piOne ≠ 0 := by decide
  have hc : ∀ (k : Nat) (z : FV), ys[k]? = some z → z.D ≠ 0 ∧ z.N * ((d * piOne : Nat) : Int) = piC p q k * (z.D : Int) := by
    intro k z hz
    obtain ⟨h1, s, hs, hr⟩ := hy k z hz
    refine ⟨h1.ne, ?_⟩
    unfold PiR at hr
    have key : ∀ (s : FV) (t : Int), s.D ≠ 0 → s.N * (d : Int) = t * (s.D : Int) → z.N * ((s.D * piOne : Nat) : Int) = s.N * piB (k % 2) * (z.D : Int) → z.N * ((d * piOne : Nat) : Int) = t * piB (k % 2) * (z.D : Int) := by
      intro s t hs0 hst hsr
      generalize piB (k % 2) = B at *
      generalize piOne = M at *
      have p1 : (s.D : Int) ≠ 0 := by omega
      refine Int.eq_of_mul_eq_mul_right p1 ?_
      rw [Int.natCast_mul] at hsr ⊢
      have e1 : z.N * ((d : Int) * (M : Int)) * (s.D : Int) = z.N * ((s.D : Int) * (M : Int)) * (d : Int) := by ac_rfl
      have e2 : s.N * B * (z.D : Int) * (d : Int) = s.N * (d : Int) * (B * (z.D : Int)) := by ac_rfl
      have e3 : t * B * (z.D : Int) * (s.D : Int) = t * (s.D : Int) * (B * (z.D : Int)) := by ac_rfl
      rw [e1, hsr, e2, hst, e3]
    have hk : k < 4 := by rw [← hl]; exact (List.getElem?_eq_some_iff.1 hz).1
    unfold piC
    have hk2 : k / 2 = 0 ∨ k / 2 = 1 := by omega
    rcases hk2 with h0 | h0
    · rw [h0] at hs ⊢
      simp at hs
      subst hs
      rw [if_pos rfl]
      exact key _ _ hx0 hx hr
    · rw [h0] at hs ⊢
      simp at hs
      subst hs
      rw [if_neg (by decide)]
      exact key _ _ hy0 hyy hr
  obtain ⟨e1, e2⟩ := span4 (c := piC p q) (Nat.mul_ne_zero hd hone) hl hc hum hvm hall
  rw [e1, e2] at he
  exact ⟨he, hb⟩

set_option maxRecDepth 100000 in
set_option maxHeartbeats 4000000 in
theorem rPi_any (a : Int × Int) (w : World) :
    Calls Try.prog 28 #[ivV a] w fun e w' => e = .returned (ivE (piE a)) ∧ Below w.heap.size w w' := by
  have hck := fun W => rcheck_any a W
  have HCK := Lib.hid hck
  clear hck
  by_cases h0 : examI [a] = 0
  · rw [h0] at HCK
    obtain ⟨ho1, ho2, -⟩ := examI_ok h0 a (by simp)
    have hq1 := fun W => Quo03_any a.1 (okB_iff.1 ho1) W
    have hq2 := fun W => Quo03_any a.2 (okB_iff.1 ho2) W
    have hres : piE a = prodsW (a.1, a.2) piL ((1 * piOne : Nat) : Int) := by unfold piE piW; rw [if_pos h0]; rfl
    rw [hres]
    have hsp : ∀ (ys : List FV) (x y : FV) (e : Ending) (V W W' : World), ys.length = 4 → (∀ (k : Nat) (z : FV), ys[k]? = some z → z.ok V 6 ∧ PiP [x, y] k z) → x.N = a.1 → x.D = 1 → y.N = a.2 → y.D = 1 → SpPost W ys e W' → e = .returned (ivE (prodsW (a.1, a.2) piL ((1 * piOne : Nat) : Int))) ∧ Below W.heap.size W W' := by
      intro ys x y e V W W' hl hy e1 e2 e3 e4 h
      exact pi_span (d := 1) (by decide) hl hy (by omega) (by omega) (by rw [e1, e2]) (by rw [e3, e4]) h
    obtain ⟨sx, sy, sc, hform⟩ : ∃ x y z, prodsW (a.1, a.2) piL ((1 * piOne : Nat) : Int) = ((x, y), z) := ⟨_, _, _, rfl⟩
    rw [hform] at hsp ⊢
    have HQ1 := Lib.hid hq1
    have HQ2 := Lib.hid hq2
    have HSP := Lib.hid hsp
    clear hq1 hq2 hres hsp hform h0 ho1 ho2
    obtain ⟨a1, a2⟩ := a
    unfold ivE ivV at HSP ⊢
    unfold ivV at HCK
    simp only at HCK HQ1 HQ2 HSP ⊢
    go_enter Try.func28, Try.ntmps28
    go_wp2_with fail
    refine (HCK.out _).mono ?_
    rintro e w1 ⟨he, hb⟩
    subst he
    have F1 := Fm.of2 hb
    have c10 := F1.k0.c0
    have c11 := F1.k0.c1
    clear hb
    go_wp2_with fail
    go_region_held3 (fun w' => w'.cell? ⟨w.heap.size, 0, none⟩ = some (.int .i64 a1) ∧ w'.cell? ⟨w.heap.size, 1, none⟩ = some (.int .i64 a2))
      (refine ⟨?_, ?_⟩ <;> first | with_reducible assumption | with_reducible exact kp0 _ _ | with_reducible exact kp1 _ _ | go_keep)
      (first
        | (go_at_call 53; refine Calls.mono (HQ1.out _) ?_; clear HQ1; rintro e w3 ⟨s1, A1, l1, p1, B1, m1, d1, N1, D1, he, hf1, ⟨hN1, hD1⟩, hb3⟩; subst he; have HN1 := Lib.hid hN1; have HD1 := Lib.hid hD1; clear hN1 hD1; have F3 := (F1.drew).later hb3; have x0 := F3.k0.c0; have x1 := F3.k0.c1)
        | (go_at_call 53; refine Calls.mono (HQ2.out _) ?_; clear HQ2; rintro e w4 ⟨s2, A2, l2, p2, B2, m2, d2, N2, D2, he, hf2, ⟨hN2, hD2⟩, hb4⟩; subst he; have HN2 := Lib.hid hN2; have HD2 := Lib.hid hD2; clear hN2 hD2; have F4 := F3.later hb4; have y0 := F4.k0.c0; have y1 := F4.k0.c1; have HPI := Lib.hid (pis2 w4 2 ⟨s1, A1, l1, p1, B1, m1, d1, N1, D1⟩ ⟨s2, A2, l2, p2, B2, m2, d2, N2, D2⟩ (by decide) (FQ.up hf1 hb4) hf2); have F4a := F4.alloc (.cells #[.bool s1, .slice A1 l1 p1, .slice B1 m1 d1, .bool s2, .slice A2 l2 p2, .slice B2 m2 d2] 61); have y0a := F4a.k0.c0; have y1a := F4a.k0.c1)
        | (go_at_call 64; refine Calls.mono (HPI.out) ?_; clear HPI; rintro e w5 ⟨g, cap, ys, he, hl, hg, hat, hb5⟩; subst he; have F5 := F4.later hb5; have z0 := F5.k0.c0; have z1 := F5.k0.c1; have HSA := Lib.hid ((span_of (cap := cap) (by decide) hl hg (fun k z hz => ⟨(hat k z hz).1, (hat k z hz).2.1⟩)).mono (fun e w' h => HSP.out ys _ _ e w5 w5 w' hl (fun k z hz => (hat k z hz).2) HN1.out HD1.out HN2.out HD2.out h)); clear hl hg hat)
        | (go_at_call 54; refine Calls.mono (HSA.out) ?_; clear HSA; rintro e w6 ⟨he, hb6⟩; subst he; have F6 := F5.later hb6; have u0 := F6.k0.c0; have u1 := F6.k0.c1; obtain ⟨q1, q2, hr⟩ := F6.res; have c30 := hr.c0; have c31 := hr.c1; have f30 := hr.f0; have f31 := hr.f1; have FS := F6.set (.int .i64 sx) (.int .i64 sy); have kp0 := fun (a b : Nat) => FS.k0.c0; have kp1 := fun (a b : Nat) => FS.k0.c1; have v0 := FS.k0.c0; have v1 := FS.k0.c1))
    have FB := Lib.hid F6
    clear F6 FS
    go_wp2_with fail
    refine bodyPost_ret (v := .tuple #[.agg #[.int .i64 sx, .int .i64 sy], .int .i64 sc]) (by simp [results, Try.results28, c30, c31, go_sem]) rfl ⟨rfl, (FB.out.set _ _).bl⟩
  · have hR : ivE (piE a) = .tuple #[.agg #[.int .i64 0, .int .i64 0], .int .i64 (examI [a])] := by unfold piE; rw [if_neg h0]; rfl
    rw [hR]
    clear hR
    unfold ivV at HCK ⊢
    generalize examI [a] = er at *
    have q1 : (er == 0) = false := by simp [h0]
    have q2 : (er != 0) = true := by simp [h0]
    clear h0
    go_enter Try.func28, Try.ntmps28
    go_wp2_with fail
    refine (HCK.out _).mono ?_
    rintro e w1 ⟨he, hb⟩
    subst he
    have F1 := Fm.of2 hb
    obtain ⟨p, q, hr⟩ := F1.res
    have c30 := hr.c0
    have c31 := hr.c1
    have f30 := hr.f0
    have f31 := hr.f1
    clear hb hr
    have FB := Lib.hid F1
    clear F1
    go_wp2_with fail
    refine bodyPost_ret (v := .tuple #[.agg #[.int .i64 0, .int .i64 0], .int .i64 er]) (by simp [results, Try.results28, c30, c31, go_sem]) rfl ⟨rfl, (FB.out.set _ _).bl⟩
end Go.Proofs.Ytmmgbofhbnflkaa
