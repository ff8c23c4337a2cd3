import Derived.Test.YtmmgbofhbnflkaaIQB
import Derived.Test.YtmmgbofhbnflkaaI15
import Derived.Test.YtmmgbofhbnflkaaI11
namespace Go.Proofs.Ytmmgbofhbnflkaa
open Go.RowKit

/-! The reference's Add, Sub, Mul, Div. -/
def cfl (n : Nat) (p q : Int) : Int := cnum n p q / (cden n q : Int)
def cup (n : Nat) (p q : Int) : Int := upI (cnum n p q) (cden n q : Int)
def cmn (n : Nat) (a b : Int × Int) : Int := min (min (cfl n a.1 b.1) (cfl n a.1 b.2)) (min (cfl n a.2 b.1) (cfl n a.2 b.2))
def cmx (n : Nat) (a b : Int × Int) : Int := max (max (cup n a.1 b.1) (cup n a.1 b.2)) (max (cup n a.2 b.1) (cup n a.2 b.2))
theorem pick0 (a : Int × Int) : pick a 0 = a.1 := rfl
theorem pick1 (a : Int × Int) : pick a 1 = a.2 := rfl
theorem corner_min {a b : Int × Int} {n : Nat} {xs : List FV} {W : World} (h0 : n = 3 → b.1 ≠ 0 ∧ b.2 ≠ 0) (hl : xs.length = 4) (hx : ∀ (k : Nat) (x : FV), xs[k]? = some x → x.ok W 9 ∧ Crel n (pick a (k / 2)) (pick b (k % 2)) x.N x.D) {x y : FV} (hxm : x ∈ xs) (hym : y ∈ xs)
    (hall : ∀ z ∈ xs, x.N * (z.D : Int) ≤ z.N * (x.D : Int) ∧ z.N * (y.D : Int) ≤ y.N * (z.D : Int)) : x.N / (x.D : Int) = cmn n a b ∧ upI y.N (y.D : Int) = cmx n a b := by
  have hden : ∀ i, cden n (pick b i) ≠ 0 := by
    intro i
    unfold cden
    split
    · rename_i h
      have := h0 h
      unfold pick
      split <;> omega
    · omega
  have hv : ∀ (k : Nat) (z : FV), xs[k]? = some z → z.N / (z.D : Int) = cfl n (pick a (k / 2)) (pick b (k % 2)) ∧ upI z.N (z.D : Int) = cup n (pick a (k / 2)) (pick b (k % 2)) := by
    intro k z hz
    obtain ⟨h1, h2⟩ := hx k z hz
    exact ⟨floor_same h1.ne (hden _) h2, up_same h1.ne (hden _) h2⟩
  have hle : ∀ (k : Nat) (z : FV), xs[k]? = some z → x.N / (x.D : Int) ≤ cfl n (pick a (k / 2)) (pick b (k % 2)) ∧ cup n (pick a (k / 2)) (pick b (k % 2)) ≤ upI y.N (y.D : Int) := by
    intro k z hz
    have hzm := List.mem_of_getElem? hz
    obtain ⟨e1, e2⟩ := hv k z hz
    obtain ⟨l1, l2⟩ := hall z hzm
    obtain ⟨i, hi⟩ := List.mem_iff_getElem?.1 hxm
    obtain ⟨j, hj⟩ := List.mem_iff_getElem?.1 hym
    rw [← e1, ← e2]
    exact ⟨floor_mono (hx i x hi).1.ne (hx k z hz).1.ne l1, up_mono (hx k z hz).1.ne (hx j y hj).1.ne l2⟩
  obtain ⟨i, hi⟩ := List.mem_iff_getElem?.1 hxm
  obtain ⟨j, hj⟩ := List.mem_iff_getElem?.1 hym
  have hi4 : i < 4 := by rw [← hl]; exact (List.getElem?_eq_some_iff.1 hi).1
  have hj4 : j < 4 := by rw [← hl]; exact (List.getElem?_eq_some_iff.1 hj).1
  have g0 := hle 0 (xs[0]'(by omega)) (List.getElem?_eq_getElem (by omega))
  have g1 := hle 1 (xs[1]'(by omega)) (List.getElem?_eq_getElem (by omega))
  have g2 := hle 2 (xs[2]'(by omega)) (List.getElem?_eq_getElem (by omega))
  have g3 := hle 3 (xs[3]'(by omega)) (List.getElem?_eq_getElem (by omega))
  have ei := (hv i x hi).1
  have ej := (hv j y hj).2
  simp only [Nat.reduceDiv, Nat.reduceMod, pick0, pick1] at g0 g1 g2 g3
  unfold cmn cmx
  constructor
  · have hc : i = 0 ∨ i = 1 ∨ i = 2 ∨ i = 3 := by omega
    rcases hc with rfl | rfl | rfl | rfl <;> simp only [Nat.reduceDiv, Nat.reduceMod, pick0, pick1] at ei <;> omega
  · have hc : j = 0 ∨ j = 1 ∨ j = 2 ∨ j = 3 := by omega
    rcases hc with rfl | rfl | rfl | rfl <;> simp only [Nat.reduceDiv, Nat.reduceMod, pick0, pick1] at ej <;> omega
def twoW (n : Nat) (a b : Int × Int) : (Int × Int) × Int :=
  if examI [a, b] = 0 then (if n = 3 ∧ b.1 ≤ 0 ∧ 0 ≤ b.2 then ((0, 0), 9) else spanW (cmn n a b) (cmx n a b)) else ((0, 0), examI [a, b])
theorem examI_two {a b : Int × Int} (h : examI [a, b] = 0) : (okB a.1 = true ∧ okB a.2 = true) ∧ (okB b.1 = true ∧ okB b.2 = true) ∧ a.1 ≤ a.2 ∧ b.1 ≤ b.2 := by
  unfold examI at h
  split at h
  · rename_i h1
    split at h
    · rename_i h2
      simp at h1 h2
      exact ⟨h1.1, h1.2, h2.1, h2.2⟩
    · cases h
  · cases h
theorem spanW_form (lo hi : Int) : ∃ x y ec, spanW lo hi = ((x, y), ec) := ⟨_, _, _, rfl⟩

set_option maxRecDepth 100000 in
set_option maxHeartbeats 2000000 in
theorem two0_any (a b : Int × Int) (w : World) :
    Calls Try.prog 44 #[ivV a, ivV b, .int .i64 0] w fun e w' => e = .returned (ivE (twoW 0 a b)) ∧ Below w.heap.size w w' := by
  have hex := fun W n hn => bad2_at a b W n hn
  have HEX := Lib.hid hex
  clear hex
  by_cases h0 : examI [a, b] = 0
  · rw [h0] at HEX
    obtain ⟨hoa, hob, hla, hlb⟩ := examI_two h0
    have HCO := Lib.hid (fun W => corners0_any a b W hoa hob)
    have hres : twoW 0 a b = spanW (cmn 0 a b) (cmx 0 a b) := by unfold twoW; rw [if_pos h0, if_neg (fun h => absurd h.1 (by decide))]
    rw [hres]
    have hcm : ∀ (xs : List FV) (W : World), xs.length = 4 → (∀ (k : Nat) (x : FV), xs[k]? = some x → FvAt W 0 0 x ∨ True) → True := fun _ _ _ _ => trivial
    clear hcm hres
    have hfin : ∀ (xs : List FV) (W W' : World) (e : Ending), xs.length = 4 → (∀ (k : Nat) (x : FV), xs[k]? = some x → x.ok W 9 ∧ Crel 0 (pick a (k / 2)) (pick b (k % 2)) x.N x.D) → SpPost W xs e W' → e = .returned (ivE (spanW (cmn 0 a b) (cmx 0 a b))) ∧ Below W.heap.size W W' := by
      intro xs W W' e hl hx ⟨x, y, hxm, hym, hall, he, hb⟩
      obtain ⟨e1, e2⟩ := corner_min (a := a) (b := b) (fun h => absurd h (by decide)) hl hx hxm hym hall
      rw [e1, e2] at he
      exact ⟨he, hb⟩
    have HFIN := Lib.hid hfin
    obtain ⟨sx, sy, sc, hsp⟩ := spanW_form (cmn 0 a b) (cmx 0 a b)
    rw [hsp] at HFIN ⊢
    clear hfin hsp h0 hoa hob hla hlb
    obtain ⟨a1, a2⟩ := a
    obtain ⟨b1, b2⟩ := b
    simp only at HEX
    unfold ivE ivV at HFIN ⊢
    unfold ivV at HCO
    simp only at HFIN HCO ⊢
    go_enter Try.func44, Try.ntmps44
    go_wp2_with fail
    refine (HEX.out _ _ (by simp)).mono ?_
    rintro e w1 ⟨he, hb⟩
    subst he
    have F1 := Fm.of3 hb
    have c10 := F1.k0.c0
    have c11 := F1.k0.c1
    have c20 := F1.k1.c0
    have c21 := F1.k1.c1
    clear hb
    go_wp2_with fail
    refine (HCO.out _).mono ?_
    rintro e w2 ⟨g, cap, xs, he, hl4, hg, hxs, hb2⟩
    rw [hl4] at he
    subst he
    have F2 := F1.later hb2
    have hsp := (Span_any g cap 9 xs w2 (by omega) (by omega) hg (fun k x hx => (hxs k x hx).1) (fun x hx => by obtain ⟨k, hk⟩ := List.mem_iff_getElem?.1 hx; exact (hxs k x hk).2.1)).mono (fun e w' h => HFIN.out xs w2 w' e hl4 (fun k x hx => (hxs k x hx).2) h)
    rw [hl4] at hsp
    have HSP := Lib.hid hsp
    have FB := Lib.hid F2
    clear hsp F1 F2 hxs hb2 hg hl4
    go_wp2_with fail
    refine HSP.out.mono ?_
    rintro e w3 ⟨he, hb3⟩
    subst he
    have F3 := FB.out.later hb3
    obtain ⟨p, q, hr⟩ := F3.res
    have c30 := hr.c0
    have c31 := hr.c1
    have f30 := hr.f0
    have f31 := hr.f1
    have FC := Lib.hid F3
    clear hr F3 hb3 c10 c11 c20 c21
    go_wp2_with fail
    refine bodyPost_ret (v := .tuple #[.agg #[.int .i64 sx, .int .i64 sy], .int .i64 sc]) (by simp [results, Try.results44, c30, c31, go_sem]) rfl ⟨rfl, (FC.out.set _ _).bl⟩
  · have hR : ivE (twoW 0 a b) = .tuple #[.agg #[.int .i64 0, .int .i64 0], .int .i64 (examI [a, b])] := by unfold twoW; rw [if_neg h0]; rfl
    rw [hR]
    clear hR
    unfold ivV
    generalize examI [a, b] = er at *
    have q1 : (er == 0) = false := by simp [h0]
    have q2 : (er != 0) = true := by simp [h0]
    clear h0
    go_enter Try.func44, Try.ntmps44
    go_wp2_with fail
    refine (HEX.out _ _ (by simp)).mono ?_
    rintro e w1 ⟨he, hb⟩
    subst he
    have F1 := Fm.of3 hb
    have c10 := F1.k0.c0
    have c11 := F1.k0.c1
    have c20 := F1.k1.c0
    have c21 := F1.k1.c1
    obtain ⟨p, q, hr⟩ := F1.res
    have c30 := hr.c0
    have c31 := hr.c1
    have f30 := hr.f0
    have f31 := hr.f1
    clear hb hr
    have FB := Lib.hid F1
    clear F1
    go_wp2_with fail
    refine bodyPost_ret (v := .tuple #[.agg #[.int .i64 0, .int .i64 0], .int .i64 er]) (by simp [results, Try.results44, c30, c31, go_sem]) rfl ⟨rfl, (FB.out.set _ _).bl⟩

set_option maxRecDepth 100000 in
set_option maxHeartbeats 1000000 in
theorem rAdd_any (a b : Int × Int) (w : World) :
    Calls Try.prog 11 #[ivV a, ivV b] w fun e w' => e = .returned (ivE (twoW 0 a b)) ∧ Below w.heap.size w w' := by
  have h2 := fun W => two0_any a b W
  obtain ⟨sx, sy, sc, hsp⟩ : ∃ x y z, twoW 0 a b = ((x, y), z) := ⟨_, _, _, rfl⟩
  rw [hsp] at h2 ⊢
  have H2 := Lib.hid h2
  clear h2 hsp
  obtain ⟨a1, a2⟩ := a
  obtain ⟨b1, b2⟩ := b
  unfold ivE ivV at H2 ⊢
  simp only at H2 ⊢
  go_enter Try.func11, Try.ntmps11
  go_wp2_with fail
  refine (H2.out _).mono ?_
  rintro e w1 ⟨he, hb⟩
  subst he
  have F1 := Fm.of3 hb
  obtain ⟨p, q, hr⟩ := F1.res
  have c30 := hr.c0
  have c31 := hr.c1
  have f30 := hr.f0
  have f31 := hr.f1
  clear hb hr
  have FB := Lib.hid F1
  clear F1
  go_wp2_with fail
  refine bodyPost_ret (v := .tuple #[.agg #[.int .i64 sx, .int .i64 sy], .int .i64 sc]) (by simp [results, Try.results11, c30, c31, go_sem]) rfl ⟨rfl, (FB.out.set _ _).bl⟩

set_option maxRecDepth 100000 in
set_option maxHeartbeats 2000000 in
theorem two1_any (a b : Int × Int) (w : World) :
    Calls Try.prog 44 #[ivV a, ivV b, .int .i64 1] w fun e w' => e = .returned (ivE (twoW 1 a b)) ∧ Below w.heap.size w w' := by
  have hex := fun W n hn => bad2_at a b W n hn
  have HEX := Lib.hid hex
  clear hex
  by_cases h0 : examI [a, b] = 0
  · rw [h0] at HEX
    obtain ⟨hoa, hob, hla, hlb⟩ := examI_two h0
    have HCO := Lib.hid (fun W => corners1_any a b W hoa hob)
    have hres : twoW 1 a b = spanW (cmn 1 a b) (cmx 1 a b) := by unfold twoW; rw [if_pos h0, if_neg (fun h => absurd h.1 (by decide))]
    rw [hres]
    have hcm : ∀ (xs : List FV) (W : World), xs.length = 4 → (∀ (k : Nat) (x : FV), xs[k]? = some x → FvAt W 0 0 x ∨ True) → True := fun _ _ _ _ => trivial
    clear hcm hres
    have hfin : ∀ (xs : List FV) (W W' : World) (e : Ending), xs.length = 4 → (∀ (k : Nat) (x : FV), xs[k]? = some x → x.ok W 9 ∧ Crel 1 (pick a (k / 2)) (pick b (k % 2)) x.N x.D) → SpPost W xs e W' → e = .returned (ivE (spanW (cmn 1 a b) (cmx 1 a b))) ∧ Below W.heap.size W W' := by
      intro xs W W' e hl hx ⟨x, y, hxm, hym, hall, he, hb⟩
      obtain ⟨e1, e2⟩ := corner_min (a := a) (b := b) (fun h => absurd h (by decide)) hl hx hxm hym hall
      rw [e1, e2] at he
      exact ⟨he, hb⟩
    have HFIN := Lib.hid hfin
    obtain ⟨sx, sy, sc, hsp⟩ := spanW_form (cmn 1 a b) (cmx 1 a b)
    rw [hsp] at HFIN ⊢
    clear hfin hsp h0 hoa hob hla hlb
    obtain ⟨a1, a2⟩ := a
    obtain ⟨b1, b2⟩ := b
    simp only at HEX
    unfold ivE ivV at HFIN ⊢
    unfold ivV at HCO
    simp only at HFIN HCO ⊢
    go_enter Try.func44, Try.ntmps44
    go_wp2_with fail
    refine (HEX.out _ _ (by simp)).mono ?_
    rintro e w1 ⟨he, hb⟩
    subst he
    have F1 := Fm.of3 hb
    have c10 := F1.k0.c0
    have c11 := F1.k0.c1
    have c20 := F1.k1.c0
    have c21 := F1.k1.c1
    clear hb
    go_wp2_with fail
    refine (HCO.out _).mono ?_
    rintro e w2 ⟨g, cap, xs, he, hl4, hg, hxs, hb2⟩
    rw [hl4] at he
    subst he
    have F2 := F1.later hb2
    have hsp := (Span_any g cap 9 xs w2 (by omega) (by omega) hg (fun k x hx => (hxs k x hx).1) (fun x hx => by obtain ⟨k, hk⟩ := List.mem_iff_getElem?.1 hx; exact (hxs k x hk).2.1)).mono (fun e w' h => HFIN.out xs w2 w' e hl4 (fun k x hx => (hxs k x hx).2) h)
    rw [hl4] at hsp
    have HSP := Lib.hid hsp
    have FB := Lib.hid F2
    clear hsp F1 F2 hxs hb2 hg hl4
    go_wp2_with fail
    refine HSP.out.mono ?_
    rintro e w3 ⟨he, hb3⟩
    subst he
    have F3 := FB.out.later hb3
    obtain ⟨p, q, hr⟩ := F3.res
    have c30 := hr.c0
    have c31 := hr.c1
    have f30 := hr.f0
    have f31 := hr.f1
    have FC := Lib.hid F3
    clear hr F3 hb3 c10 c11 c20 c21
    go_wp2_with fail
    refine bodyPost_ret (v := .tuple #[.agg #[.int .i64 sx, .int .i64 sy], .int .i64 sc]) (by simp [results, Try.results44, c30, c31, go_sem]) rfl ⟨rfl, (FC.out.set _ _).bl⟩
  · have hR : ivE (twoW 1 a b) = .tuple #[.agg #[.int .i64 0, .int .i64 0], .int .i64 (examI [a, b])] := by unfold twoW; rw [if_neg h0]; rfl
    rw [hR]
    clear hR
    unfold ivV
    generalize examI [a, b] = er at *
    have q1 : (er == 0) = false := by simp [h0]
    have q2 : (er != 0) = true := by simp [h0]
    clear h0
    go_enter Try.func44, Try.ntmps44
    go_wp2_with fail
    refine (HEX.out _ _ (by simp)).mono ?_
    rintro e w1 ⟨he, hb⟩
    subst he
    have F1 := Fm.of3 hb
    have c10 := F1.k0.c0
    have c11 := F1.k0.c1
    have c20 := F1.k1.c0
    have c21 := F1.k1.c1
    obtain ⟨p, q, hr⟩ := F1.res
    have c30 := hr.c0
    have c31 := hr.c1
    have f30 := hr.f0
    have f31 := hr.f1
    clear hb hr
    have FB := Lib.hid F1
    clear F1
    go_wp2_with fail
    refine bodyPost_ret (v := .tuple #[.agg #[.int .i64 0, .int .i64 0], .int .i64 er]) (by simp [results, Try.results44, c30, c31, go_sem]) rfl ⟨rfl, (FB.out.set _ _).bl⟩

set_option maxRecDepth 100000 in
set_option maxHeartbeats 1000000 in
theorem rSub_any (a b : Int × Int) (w : World) :
    Calls Try.prog 13 #[ivV a, ivV b] w fun e w' => e = .returned (ivE (twoW 1 a b)) ∧ Below w.heap.size w w' := by
  have h2 := fun W => two1_any a b W
  obtain ⟨sx, sy, sc, hsp⟩ : ∃ x y z, twoW 1 a b = ((x, y), z) := ⟨_, _, _, rfl⟩
  rw [hsp] at h2 ⊢
  have H2 := Lib.hid h2
  clear h2 hsp
  obtain ⟨a1, a2⟩ := a
  obtain ⟨b1, b2⟩ := b
  unfold ivE ivV at H2 ⊢
  simp only at H2 ⊢
  go_enter Try.func13, Try.ntmps13
  go_wp2_with fail
  refine (H2.out _).mono ?_
  rintro e w1 ⟨he, hb⟩
  subst he
  have F1 := Fm.of3 hb
  obtain ⟨p, q, hr⟩ := F1.res
  have c30 := hr.c0
  have c31 := hr.c1
  have f30 := hr.f0
  have f31 := hr.f1
  clear hb hr
  have FB := Lib.hid F1
  clear F1
  go_wp2_with fail
  refine bodyPost_ret (v := .tuple #[.agg #[.int .i64 sx, .int .i64 sy], .int .i64 sc]) (by simp [results, Try.results13, c30, c31, go_sem]) rfl ⟨rfl, (FB.out.set _ _).bl⟩

set_option maxRecDepth 100000 in
set_option maxHeartbeats 2000000 in
theorem two2_any (a b : Int × Int) (w : World) :
    Calls Try.prog 44 #[ivV a, ivV b, .int .i64 2] w fun e w' => e = .returned (ivE (twoW 2 a b)) ∧ Below w.heap.size w w' := by
  have hex := fun W n hn => bad2_at a b W n hn
  have HEX := Lib.hid hex
  clear hex
  by_cases h0 : examI [a, b] = 0
  · rw [h0] at HEX
    obtain ⟨hoa, hob, hla, hlb⟩ := examI_two h0
    have HCO := Lib.hid (fun W => corners2_any a b W hoa hob)
    have hres : twoW 2 a b = spanW (cmn 2 a b) (cmx 2 a b) := by unfold twoW; rw [if_pos h0, if_neg (fun h => absurd h.1 (by decide))]
    rw [hres]
    have hcm : ∀ (xs : List FV) (W : World), xs.length = 4 → (∀ (k : Nat) (x : FV), xs[k]? = some x → FvAt W 0 0 x ∨ True) → True := fun _ _ _ _ => trivial
    clear hcm hres
    have hfin : ∀ (xs : List FV) (W W' : World) (e : Ending), xs.length = 4 → (∀ (k : Nat) (x : FV), xs[k]? = some x → x.ok W 9 ∧ Crel 2 (pick a (k / 2)) (pick b (k % 2)) x.N x.D) → SpPost W xs e W' → e = .returned (ivE (spanW (cmn 2 a b) (cmx 2 a b))) ∧ Below W.heap.size W W' := by
      intro xs W W' e hl hx ⟨x, y, hxm, hym, hall, he, hb⟩
      obtain ⟨e1, e2⟩ := corner_min (a := a) (b := b) (fun h => absurd h (by decide)) hl hx hxm hym hall
      rw [e1, e2] at he
      exact ⟨he, hb⟩
    have HFIN := Lib.hid hfin
    obtain ⟨sx, sy, sc, hsp⟩ := spanW_form (cmn 2 a b) (cmx 2 a b)
    rw [hsp] at HFIN ⊢
    clear hfin hsp h0 hoa hob hla hlb
    obtain ⟨a1, a2⟩ := a
    obtain ⟨b1, b2⟩ := b
    simp only at HEX
    unfold ivE ivV at HFIN ⊢
    unfold ivV at HCO
    simp only at HFIN HCO ⊢
    go_enter Try.func44, Try.ntmps44
    go_wp2_with fail
    refine (HEX.out _ _ (by simp)).mono ?_
    rintro e w1 ⟨he, hb⟩
    subst he
    have F1 := Fm.of3 hb
    have c10 := F1.k0.c0
    have c11 := F1.k0.c1
    have c20 := F1.k1.c0
    have c21 := F1.k1.c1
    clear hb
    go_wp2_with fail
    refine (HCO.out _).mono ?_
    rintro e w2 ⟨g, cap, xs, he, hl4, hg, hxs, hb2⟩
    rw [hl4] at he
    subst he
    have F2 := F1.later hb2
    have hsp := (Span_any g cap 9 xs w2 (by omega) (by omega) hg (fun k x hx => (hxs k x hx).1) (fun x hx => by obtain ⟨k, hk⟩ := List.mem_iff_getElem?.1 hx; exact (hxs k x hk).2.1)).mono (fun e w' h => HFIN.out xs w2 w' e hl4 (fun k x hx => (hxs k x hx).2) h)
    rw [hl4] at hsp
    have HSP := Lib.hid hsp
    have FB := Lib.hid F2
    clear hsp F1 F2 hxs hb2 hg hl4
    go_wp2_with fail
    refine HSP.out.mono ?_
    rintro e w3 ⟨he, hb3⟩
    subst he
    have F3 := FB.out.later hb3
    obtain ⟨p, q, hr⟩ := F3.res
    have c30 := hr.c0
    have c31 := hr.c1
    have f30 := hr.f0
    have f31 := hr.f1
    have FC := Lib.hid F3
    clear hr F3 hb3 c10 c11 c20 c21
    go_wp2_with fail
    refine bodyPost_ret (v := .tuple #[.agg #[.int .i64 sx, .int .i64 sy], .int .i64 sc]) (by simp [results, Try.results44, c30, c31, go_sem]) rfl ⟨rfl, (FC.out.set _ _).bl⟩
  · have hR : ivE (twoW 2 a b) = .tuple #[.agg #[.int .i64 0, .int .i64 0], .int .i64 (examI [a, b])] := by unfold twoW; rw [if_neg h0]; rfl
    rw [hR]
    clear hR
    unfold ivV
    generalize examI [a, b] = er at *
    have q1 : (er == 0) = false := by simp [h0]
    have q2 : (er != 0) = true := by simp [h0]
    clear h0
    go_enter Try.func44, Try.ntmps44
    go_wp2_with fail
    refine (HEX.out _ _ (by simp)).mono ?_
    rintro e w1 ⟨he, hb⟩
    subst he
    have F1 := Fm.of3 hb
    have c10 := F1.k0.c0
    have c11 := F1.k0.c1
    have c20 := F1.k1.c0
    have c21 := F1.k1.c1
    obtain ⟨p, q, hr⟩ := F1.res
    have c30 := hr.c0
    have c31 := hr.c1
    have f30 := hr.f0
    have f31 := hr.f1
    clear hb hr
    have FB := Lib.hid F1
    clear F1
    go_wp2_with fail
    refine bodyPost_ret (v := .tuple #[.agg #[.int .i64 0, .int .i64 0], .int .i64 er]) (by simp [results, Try.results44, c30, c31, go_sem]) rfl ⟨rfl, (FB.out.set _ _).bl⟩

set_option maxRecDepth 100000 in
set_option maxHeartbeats 1000000 in
theorem rMul_any (a b : Int × Int) (w : World) :
    Calls Try.prog 17 #[ivV a, ivV b] w fun e w' => e = .returned (ivE (twoW 2 a b)) ∧ Below w.heap.size w w' := by
  have h2 := fun W => two2_any a b W
  obtain ⟨sx, sy, sc, hsp⟩ : ∃ x y z, twoW 2 a b = ((x, y), z) := ⟨_, _, _, rfl⟩
  rw [hsp] at h2 ⊢
  have H2 := Lib.hid h2
  clear h2 hsp
  obtain ⟨a1, a2⟩ := a
  obtain ⟨b1, b2⟩ := b
  unfold ivE ivV at H2 ⊢
  simp only at H2 ⊢
  go_enter Try.func17, Try.ntmps17
  go_wp2_with fail
  refine (H2.out _).mono ?_
  rintro e w1 ⟨he, hb⟩
  subst he
  have F1 := Fm.of3 hb
  obtain ⟨p, q, hr⟩ := F1.res
  have c30 := hr.c0
  have c31 := hr.c1
  have f30 := hr.f0
  have f31 := hr.f1
  clear hb hr
  have FB := Lib.hid F1
  clear F1
  go_wp2_with fail
  refine bodyPost_ret (v := .tuple #[.agg #[.int .i64 sx, .int .i64 sy], .int .i64 sc]) (by simp [results, Try.results17, c30, c31, go_sem]) rfl ⟨rfl, (FB.out.set _ _).bl⟩

set_option maxRecDepth 100000 in
set_option maxHeartbeats 2000000 in
theorem two3_any (a b : Int × Int) (w : World) :
    Calls Try.prog 44 #[ivV a, ivV b, .int .i64 3] w fun e w' => e = .returned (ivE (twoW 3 a b)) ∧ Below w.heap.size w w' := by
  have hex := fun W n hn => bad2_at a b W n hn
  have HEX := Lib.hid hex
  clear hex
  by_cases h0 : examI [a, b] = 0
  · rw [h0] at HEX
    obtain ⟨hoa, hob, hla, hlb⟩ := examI_two h0
    by_cases hz : b.1 ≤ 0 ∧ 0 ≤ b.2
    · have hR : ivE (twoW 3 a b) = .tuple #[.agg #[.int .i64 0, .int .i64 0], .int .i64 9] := by unfold twoW; rw [if_pos h0, if_pos ⟨rfl, hz⟩]; rfl
      rw [hR]
      obtain ⟨z1, z2⟩ := hz
      clear hR h0 hoa hob hla hlb
      obtain ⟨a1, a2⟩ := a
      obtain ⟨b1, b2⟩ := b
      simp only at HEX z1 z2
      unfold ivV
      simp only
      go_enter Try.func44, Try.ntmps44
      go_wp2_with fail
      refine (HEX.out _ _ (by simp)).mono ?_
      rintro e w1 ⟨he, hb⟩
      subst he
      have F1 := Fm.of3 hb
      have c10 := F1.k0.c0
      have c11 := F1.k0.c1
      have c20 := F1.k1.c0
      have c21 := F1.k1.c1
      obtain ⟨p, q, hr⟩ := F1.res
      have c30 := hr.c0
      have c31 := hr.c1
      have f30 := hr.f0
      have f31 := hr.f1
      clear hb hr
      have FB := Lib.hid F1
      clear F1
      go_wp2_with fail
      refine bodyPost_ret (v := .tuple #[.agg #[.int .i64 0, .int .i64 0], .int .i64 9]) (by simp [results, Try.results44, c30, c31, go_sem]) rfl ⟨rfl, (FB.out.set _ _).bl⟩
    · have hb0 : b.1 ≠ 0 ∧ b.2 ≠ 0 := by omega
      have hz1 : b.1 ≤ 0 → ¬ 0 ≤ b.2 := fun h h' => hz ⟨h, h'⟩
      have HCO := Lib.hid (fun W => corners3_any a b W hoa hob hb0)
      have hres : twoW 3 a b = spanW (cmn 3 a b) (cmx 3 a b) := by unfold twoW; rw [if_pos h0, if_neg (fun h => hz h.2)]
      rw [hres]
      have hcm : ∀ (xs : List FV) (W : World), xs.length = 4 → (∀ (k : Nat) (x : FV), xs[k]? = some x → FvAt W 0 0 x ∨ True) → True := fun _ _ _ _ => trivial
      clear hcm hres
      have hfin : ∀ (xs : List FV) (W W' : World) (e : Ending), xs.length = 4 → (∀ (k : Nat) (x : FV), xs[k]? = some x → x.ok W 9 ∧ Crel 3 (pick a (k / 2)) (pick b (k % 2)) x.N x.D) → SpPost W xs e W' → e = .returned (ivE (spanW (cmn 3 a b) (cmx 3 a b))) ∧ Below W.heap.size W W' := by
        intro xs W W' e hl hx ⟨x, y, hxm, hym, hall, he, hb⟩
        obtain ⟨e1, e2⟩ := corner_min (a := a) (b := b) (fun _ => hb0) hl hx hxm hym hall
        rw [e1, e2] at he
        exact ⟨he, hb⟩
      have HFIN := Lib.hid hfin
      obtain ⟨sx, sy, sc, hsp⟩ := spanW_form (cmn 3 a b) (cmx 3 a b)
      rw [hsp] at HFIN ⊢
      clear hfin hsp h0 hoa hob hla hlb hb0
      obtain ⟨a1, a2⟩ := a
      obtain ⟨b1, b2⟩ := b
      simp only at HEX hz1 hz
      unfold ivE ivV at HFIN ⊢
      unfold ivV at HCO
      simp only at HFIN HCO ⊢
      by_cases z1 : b1 ≤ 0
      · have z2 : ¬ 0 ≤ b2 := hz1 z1
        clear hz1 hz
        go_enter Try.func44, Try.ntmps44
        go_wp2_with fail
        refine (HEX.out _ _ (by simp)).mono ?_
        rintro e w1 ⟨he, hb⟩
        subst he
        have F1 := Fm.of3 hb
        have c10 := F1.k0.c0
        have c11 := F1.k0.c1
        have c20 := F1.k1.c0
        have c21 := F1.k1.c1
        clear hb
        go_wp2_with fail
        refine (HCO.out _).mono ?_
        rintro e w2 ⟨g, cap, xs, he, hl4, hg, hxs, hb2⟩
        rw [hl4] at he
        subst he
        have F2 := F1.later hb2
        have hsp := (Span_any g cap 9 xs w2 (by omega) (by omega) hg (fun k x hx => (hxs k x hx).1) (fun x hx => by obtain ⟨k, hk⟩ := List.mem_iff_getElem?.1 hx; exact (hxs k x hk).2.1)).mono (fun e w' h => HFIN.out xs w2 w' e hl4 (fun k x hx => (hxs k x hx).2) h)
        rw [hl4] at hsp
        have HSP := Lib.hid hsp
        have FB := Lib.hid F2
        clear hsp F1 F2 hxs hb2 hg hl4
        go_wp2_with fail
        refine HSP.out.mono ?_
        rintro e w3 ⟨he, hb3⟩
        subst he
        have F3 := FB.out.later hb3
        obtain ⟨p, q, hr⟩ := F3.res
        have c30 := hr.c0
        have c31 := hr.c1
        have f30 := hr.f0
        have f31 := hr.f1
        have FC := Lib.hid F3
        clear hr F3 hb3 c10 c11 c20 c21
        go_wp2_with fail
        refine bodyPost_ret (v := .tuple #[.agg #[.int .i64 sx, .int .i64 sy], .int .i64 sc]) (by simp [results, Try.results44, c30, c31, go_sem]) rfl ⟨rfl, (FC.out.set _ _).bl⟩
      · clear hz1 hz
        go_enter Try.func44, Try.ntmps44
        go_wp2_with fail
        refine (HEX.out _ _ (by simp)).mono ?_
        rintro e w1 ⟨he, hb⟩
        subst he
        have F1 := Fm.of3 hb
        have c10 := F1.k0.c0
        have c11 := F1.k0.c1
        have c20 := F1.k1.c0
        have c21 := F1.k1.c1
        clear hb
        go_wp2_with fail
        refine (HCO.out _).mono ?_
        rintro e w2 ⟨g, cap, xs, he, hl4, hg, hxs, hb2⟩
        rw [hl4] at he
        subst he
        have F2 := F1.later hb2
        have hsp := (Span_any g cap 9 xs w2 (by omega) (by omega) hg (fun k x hx => (hxs k x hx).1) (fun x hx => by obtain ⟨k, hk⟩ := List.mem_iff_getElem?.1 hx; exact (hxs k x hk).2.1)).mono (fun e w' h => HFIN.out xs w2 w' e hl4 (fun k x hx => (hxs k x hx).2) h)
        rw [hl4] at hsp
        have HSP := Lib.hid hsp
        have FB := Lib.hid F2
        clear hsp F1 F2 hxs hb2 hg hl4
        go_wp2_with fail
        refine HSP.out.mono ?_
        rintro e w3 ⟨he, hb3⟩
        subst he
        have F3 := FB.out.later hb3
        obtain ⟨p, q, hr⟩ := F3.res
        have c30 := hr.c0
        have c31 := hr.c1
        have f30 := hr.f0
        have f31 := hr.f1
        have FC := Lib.hid F3
        clear hr F3 hb3 c10 c11 c20 c21
        go_wp2_with fail
        refine bodyPost_ret (v := .tuple #[.agg #[.int .i64 sx, .int .i64 sy], .int .i64 sc]) (by simp [results, Try.results44, c30, c31, go_sem]) rfl ⟨rfl, (FC.out.set _ _).bl⟩
  · have hR : ivE (twoW 3 a b) = .tuple #[.agg #[.int .i64 0, .int .i64 0], .int .i64 (examI [a, b])] := by unfold twoW; rw [if_neg h0]; rfl
    rw [hR]
    clear hR
    unfold ivV
    generalize examI [a, b] = er at *
    have q1 : (er == 0) = false := by simp [h0]
    have q2 : (er != 0) = true := by simp [h0]
    clear h0
    go_enter Try.func44, Try.ntmps44
    go_wp2_with fail
    refine (HEX.out _ _ (by simp)).mono ?_
    rintro e w1 ⟨he, hb⟩
    subst he
    have F1 := Fm.of3 hb
    have c10 := F1.k0.c0
    have c11 := F1.k0.c1
    have c20 := F1.k1.c0
    have c21 := F1.k1.c1
    obtain ⟨p, q, hr⟩ := F1.res
    have c30 := hr.c0
    have c31 := hr.c1
    have f30 := hr.f0
    have f31 := hr.f1
    clear hb hr
    have FB := Lib.hid F1
    clear F1
    go_wp2_with fail
    refine bodyPost_ret (v := .tuple #[.agg #[.int .i64 0, .int .i64 0], .int .i64 er]) (by simp [results, Try.results44, c30, c31, go_sem]) rfl ⟨rfl, (FB.out.set _ _).bl⟩

set_option maxRecDepth 100000 in
set_option maxHeartbeats 1000000 in
theorem rDiv_any (a b : Int × Int) (w : World) :
    Calls Try.prog 19 #[ivV a, ivV b] w fun e w' => e = .returned (ivE (twoW 3 a b)) ∧ Below w.heap.size w w' := by
  have h2 := fun W => two3_any a b W
  obtain ⟨sx, sy, sc, hsp⟩ : ∃ x y z, twoW 3 a b = ((x, y), z) := ⟨_, _, _, rfl⟩
  rw [hsp] at h2 ⊢
  have H2 := Lib.hid h2
  clear h2 hsp
  obtain ⟨a1, a2⟩ := a
  obtain ⟨b1, b2⟩ := b
  unfold ivE ivV at H2 ⊢
  simp only at H2 ⊢
  go_enter Try.func19, Try.ntmps19
  go_wp2_with fail
  refine (H2.out _).mono ?_
  rintro e w1 ⟨he, hb⟩
  subst he
  have F1 := Fm.of3 hb
  obtain ⟨p, q, hr⟩ := F1.res
  have c30 := hr.c0
  have c31 := hr.c1
  have f30 := hr.f0
  have f31 := hr.f1
  clear hb hr
  have FB := Lib.hid F1
  clear F1
  go_wp2_with fail
  refine bodyPost_ret (v := .tuple #[.agg #[.int .i64 sx, .int .i64 sy], .int .i64 sc]) (by simp [results, Try.results19, c30, c31, go_sem]) rfl ⟨rfl, (FB.out.set _ _).bl⟩
end Go.Proofs.Ytmmgbofhbnflkaa
