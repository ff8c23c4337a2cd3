import Derived.Test.YtmmgbofhbnflkaaIL4
namespace Go.Proofs.Ytmmgbofhbnflkaa
open Go.RowKit

theorem Km.over2 {w w' : World} {K : List (Nat × Value × Value)} {g : Nat} (h : Km w K w') (hne : ∀ t ∈ K, t.1 ≠ g) (hg : w.heap.size ≤ g) (x y : Value) : Km w K ((w'.setCell ⟨g, 0, none⟩ x).setCell ⟨g, 1, none⟩ y) :=
  ⟨fun t ht => ((h.keep t ht).setOther (hne t ht) 0 x).setOther (hne t ht) 1 y, Below.set2 h.bl g hg x y⟩

set_option maxRecDepth 100000 in
set_option maxHeartbeats 4000000 in
theorem narrow_walk (l0 l1 m0 m1 u v k a1 a2 x b1 b2 y kk c1 c2 d1 d2 g1 g2 i1 i2 p1 p2 n1 n2 s1 s2 r1 r2 q1 q2 t1 t2 : Int) (z : Bool) (w : World)
    (HA : ∀ w, Calls Try.prog 37 #[.agg #[.int .i32 l0, .int .i32 l1], .int .u32 u] w fun e w' => e = .returned (.tuple #[.agg #[.int .i64 a1, .int .i64 a2], .int .i64 x]) ∧ Below w.heap.size w w')
    (HB : ∀ w, Calls Try.prog 37 #[.agg #[.int .i32 m0, .int .i32 m1], .int .u32 v] w fun e w' => e = .returned (.tuple #[.agg #[.int .i64 b1, .int .i64 b2], .int .i64 y]) ∧ Below w.heap.size w w')
    (HM1 : ∀ w, Calls Try.prog 16 #[.agg #[.int .i64 a1, .int .i64 a2], .agg #[.int .i64 b1, .int .i64 b2]] w fun e w' => e = .returned (.tuple #[.agg #[.int .i64 c1, .int .i64 c2], .int .i64 0]) ∧ Below w.heap.size w w')
    (HM2 : ∀ w, Calls Try.prog 16 #[.agg #[.int .i64 x, .int .i64 a2], .agg #[.int .i64 b1, .int .i64 y]] w fun e w' => e = .returned (.tuple #[.agg #[.int .i64 d1, .int .i64 d2], .int .i64 0]) ∧ Below w.heap.size w w')
    (HP1 : ∀ w, Calls Try.prog 23 #[.agg #[.int .i64 a1, .int .i64 a2], .int .i64 kk] w fun e w' => e = .returned (.tuple #[.agg #[.int .i64 g1, .int .i64 g2], .int .i64 0]) ∧ Below w.heap.size w w')
    (HP2 : ∀ w, Calls Try.prog 23 #[.agg #[.int .i64 x, .int .i64 a2], .int .i64 kk] w fun e w' => e = .returned (.tuple #[.agg #[.int .i64 i1, .int .i64 i2], .int .i64 0]) ∧ Below w.heap.size w w')
    (HI1 : ∀ w, Calls Try.prog 27 #[.agg #[.int .i64 a1, .int .i64 a2]] w fun e w' => e = .returned (.tuple #[.agg #[.int .i64 p1, .int .i64 p2], .int .i64 0]) ∧ Below w.heap.size w w')
    (HI2 : ∀ w, Calls Try.prog 27 #[.agg #[.int .i64 x, .int .i64 a2]] w fun e w' => e = .returned (.tuple #[.agg #[.int .i64 n1, .int .i64 n2], .int .i64 0]) ∧ Below w.heap.size w w')
    (N1 : ∀ w, Calls Try.prog 38 #[.int .i64 d1, .agg #[.int .i64 c1, .int .i64 c2]] w fun e w' => e = .returned (.bool true) ∧ Below w.heap.size w w')
    (N2 : ∀ w, Calls Try.prog 38 #[.int .i64 d2, .agg #[.int .i64 c1, .int .i64 c2]] w fun e w' => e = .returned (.bool true) ∧ Below w.heap.size w w')
    (N3 : ∀ w, Calls Try.prog 38 #[.int .i64 i1, .agg #[.int .i64 g1, .int .i64 g2]] w fun e w' => e = .returned (.bool true) ∧ Below w.heap.size w w')
    (N4 : ∀ w, Calls Try.prog 38 #[.int .i64 i2, .agg #[.int .i64 g1, .int .i64 g2]] w fun e w' => e = .returned (.bool true) ∧ Below w.heap.size w w')
    (N5 : ∀ w, Calls Try.prog 38 #[.int .i64 n1, .agg #[.int .i64 p1, .int .i64 p2]] w fun e w' => e = .returned (.bool true) ∧ Below w.heap.size w w')
    (N6 : ∀ w, Calls Try.prog 38 #[.int .i64 n2, .agg #[.int .i64 p1, .int .i64 p2]] w fun e w' => e = .returned (.bool true) ∧ Below w.heap.size w w')
    (HAD : ∀ w, Calls Try.prog 10 #[.agg #[.int .i64 a1, .int .i64 a2], .agg #[.int .i64 b1, .int .i64 b2]] w fun e w' => e = .returned (.tuple #[.agg #[.int .i64 s1, .int .i64 s2], .int .i64 0]) ∧ Below w.heap.size w w')
    (HSU : ∀ w, Calls Try.prog 12 #[.agg #[.int .i64 s1, .int .i64 s2], .agg #[.int .i64 b1, .int .i64 b2]] w fun e w' => e = .returned (.tuple #[.agg #[.int .i64 r1, .int .i64 r2], .int .i64 0]) ∧ Below w.heap.size w w')
    (N7 : ∀ w, Calls Try.prog 38 #[.int .i64 a1, .agg #[.int .i64 r1, .int .i64 r2]] w fun e w' => e = .returned (.bool true) ∧ Below w.heap.size w w')
    (N8 : ∀ w, Calls Try.prog 38 #[.int .i64 a2, .agg #[.int .i64 r1, .int .i64 r2]] w fun e w' => e = .returned (.bool true) ∧ Below w.heap.size w w')
    (HZ : ∀ w, Calls Try.prog 38 #[.int .i64 0, .agg #[.int .i64 b1, .int .i64 b2]] w fun e w' => e = .returned (.bool z) ∧ Below w.heap.size w w')
    (HDI : z = false → ∀ w, Calls Try.prog 18 #[.agg #[.int .i64 a1, .int .i64 a2], .agg #[.int .i64 b1, .int .i64 b2]] w fun e w' => e = .returned (.tuple #[.agg #[.int .i64 q1, .int .i64 q2], .int .i64 0]) ∧ Below w.heap.size w w')
    (HM3 : z = false → ∀ w, Calls Try.prog 16 #[.agg #[.int .i64 q1, .int .i64 q2], .agg #[.int .i64 b1, .int .i64 b2]] w fun e w' => e = .returned (.tuple #[.agg #[.int .i64 t1, .int .i64 t2], .int .i64 0]) ∧ Below w.heap.size w w')
    (N9 : z = false → ∀ w, Calls Try.prog 38 #[.int .i64 a1, .agg #[.int .i64 t1, .int .i64 t2]] w fun e w' => e = .returned (.bool true) ∧ Below w.heap.size w w')
    (N10 : z = false → ∀ w, Calls Try.prog 38 #[.int .i64 a2, .agg #[.int .i64 t1, .int .i64 t2]] w fun e w' => e = .returned (.bool true) ∧ Below w.heap.size w w')
    (hk : 0 ≤ k ∧ k ≤ 255) (hkk : kk = k % 3) :
    Calls Try.prog 8 #[.agg #[.int .i32 l0, .int .i32 l1, .int .i32 m0, .int .i32 m1, .int .u32 u, .int .u32 v], .int .u8 k] w fun e w' => e = .returned (.bool true) ∧ Below w.heap.size w w' := by
  have j1 : k.tmod 3 = k % 3 := Int.tmod_eq_emod_of_nonneg hk.1
  have j2 : wrap64 (k % 3) = k % 3 := wrap64_of (by unfold I64; omega)
  have HKK := Lib.hid hkk
  clear hk hkk
  have IV := Lib.hid iv_g
  have HA := Lib.hid HA
  have HB := Lib.hid HB
  have HM1 := Lib.hid HM1
  have HM2 := Lib.hid HM2
  have HP1 := Lib.hid HP1
  have HP2 := Lib.hid HP2
  have HI1 := Lib.hid HI1
  have HI2 := Lib.hid HI2
  have HAD := Lib.hid HAD
  have HSU := Lib.hid HSU
  have HZ := Lib.hid HZ
  have HDI := Lib.hid HDI
  have HM3 := Lib.hid HM3
  have N1 := Lib.hid N1
  have N2 := Lib.hid N2
  have N3 := Lib.hid N3
  have N4 := Lib.hid N4
  have N5 := Lib.hid N5
  have N6 := Lib.hid N6
  have N7 := Lib.hid N7
  have N8 := Lib.hid N8
  have N9 := Lib.hid N9
  have N10 := Lib.hid N10
  go_enter Try.func8, Try.ntmps8
  have KM := Lib.hid (Km.of (below_alloc w (.cells #[.int .i32 l0, .int .i32 l1, .int .i32 m0, .int .i32 m1, .int .u32 u, .int .u32 v] 41)))
  have x2 : (w.alloc (.cells #[.int .i32 l0, .int .i32 l1, .int .i32 m0, .int .i32 m1, .int .u32 u, .int .u32 v] 41)).cell? ⟨w.heap.size, 2, none⟩ = some (.int .i32 m0) := by simp
  have x3 : (w.alloc (.cells #[.int .i32 l0, .int .i32 l1, .int .i32 m0, .int .i32 m1, .int .u32 u, .int .u32 v] 41)).cell? ⟨w.heap.size, 3, none⟩ = some (.int .i32 m1) := by simp
  have x5 : (w.alloc (.cells #[.int .i32 l0, .int .i32 l1, .int .i32 m0, .int .i32 m1, .int .u32 u, .int .u32 v] 41)).cell? ⟨w.heap.size, 5, none⟩ = some (.int .u32 v) := by simp
  have X2 := Lib.hid x2
  have X3 := Lib.hid x3
  have X5 := Lib.hid x5
  clear x2 x3 x5
  go_wp2_with fail
  refine (HA.out _).mono ?_
  rintro e w1 ⟨he, hb⟩
  subst he
  have K0 := (KM.out.later hb).alloc (.cells #[.int .i64 a1, .int .i64 a2] 23)
  obtain ⟨w1a, hw1a⟩ : ∃ u, w1.alloc (.cells #[.int .i64 a1, .int .i64 a2] 23) = u := ⟨_, rfl⟩
  obtain ⟨ga, hga⟩ : ∃ n, w1.heap.size = n := ⟨_, rfl⟩
  have k0 := Cell2.new w1 (.int .i64 a1) (.int .i64 a2) 23
  rw [hw1a, hga] at k0
  rw [hw1a] at K0
  have x2 := cell_later (below_alloc w1 (.cells #[.int .i64 a1, .int .i64 a2] 23)) (cell_later hb X2.out)
  have x3 := cell_later (below_alloc w1 (.cells #[.int .i64 a1, .int .i64 a2] 23)) (cell_later hb X3.out)
  have x5 := cell_later (below_alloc w1 (.cells #[.int .i64 a1, .int .i64 a2] 23)) (cell_later hb X5.out)
  rw [hw1a] at x2 x3 x5
  have KM' := Lib.hid (K0.more k0)
  clear X2 X3 X5
  clear KM K0 k0 hb
  have KM := KM'
  clear KM'
  go_wp2_with fail
  clear hw1a hga x2 x3 x5
  refine (HB.out _).mono ?_
  rintro e w2 ⟨he, hb⟩
  subst he
  have K0 := (KM.out.later hb).alloc (.cells #[.int .i64 b1, .int .i64 b2] 23)
  obtain ⟨w2a, hw2a⟩ : ∃ u, w2.alloc (.cells #[.int .i64 b1, .int .i64 b2] 23) = u := ⟨_, rfl⟩
  obtain ⟨gb, hgb⟩ : ∃ n, w2.heap.size = n := ⟨_, rfl⟩
  have k0 := Cell2.new w2 (.int .i64 b1) (.int .i64 b2) 23
  rw [hw2a, hgb] at k0
  rw [hw2a] at K0
  have KM' := Lib.hid (K0.more k0)
  clear KM K0 k0 hb
  have KM := KM'
  clear KM'
  go_wp2_with fail
  clear hw2a hgb
  refine E_start (S := fun u => Km w [(gb, .int .i64 b1, .int .i64 b2), (ga, .int .i64 a1, .int .i64 a2)] u) (by kernel_rfl) KM.out.drew ?_
  clear KM
  refine call_take (i := 0) (v := (.int .i64 x)) rfl (by kernel_rfl) (by kernel_rfl) (by kernel_rfl) (fun _ _ _ h => h) ⟨by kernel_rfl, .inr (fun w' _ => by go_simp)⟩ ?_
  simp only [Act.put, List.getElem_toArray, List.getElem_cons_succ, List.getElem_cons_zero, List.setIfInBounds_toArray, List.set_cons_zero, List.set_cons_succ]
  refine call_take (i := 1) (v := (.pointer (some ⟨ga, 1, none⟩))) rfl (by kernel_rfl) (by kernel_rfl) (by kernel_rfl) (fun _ _ _ h => h) ⟨by kernel_rfl, .inr (fun w' _ => by go_simp)⟩ ?_
  simp only [Act.put, List.getElem_toArray, List.getElem_cons_succ, List.getElem_cons_zero, List.setIfInBounds_toArray, List.set_cons_zero, List.set_cons_succ]
  refine call_take (i := 2) (v := (.int .i64 a2)) rfl (by kernel_rfl) (by kernel_rfl) (by kernel_rfl) (fun _ _ _ h => h) ⟨by kernel_rfl, .inr (fun w' hSw => by have hk := (show Km w [(gb, .int .i64 b1, .int .i64 b2), (ga, .int .i64 a1, .int .i64 a2)] w' from hSw).k1; have q0 := hk.c0; have q1 := hk.c1; clear hSw hk; go_simp)⟩ ?_
  simp only [Act.put, List.getElem_toArray, List.getElem_cons_succ, List.getElem_cons_zero, List.setIfInBounds_toArray, List.set_cons_zero, List.set_cons_succ]
  refine call_take (i := 3) (v := (.agg #[.int .i64 x, .int .i64 a2])) rfl (by kernel_rfl) (by kernel_rfl) (by kernel_rfl) (fun _ _ _ h => h) ⟨by kernel_rfl, .inl ⟨41, #[.int .i64 x, .int .i64 a2], fun w' => by go_simp, fun w' hw => (IV.out x a2 w').mono fun e u ⟨h1, h2⟩ => ⟨h1, h2, Km.later hw h2⟩⟩⟩ ?_
  simp only [Act.put, List.getElem_toArray, List.getElem_cons_succ, List.getElem_cons_zero, List.setIfInBounds_toArray, List.set_cons_zero, List.set_cons_succ]
  refine call_take (i := 4) (v := (.pointer (some ⟨gb, 0, none⟩))) rfl (by kernel_rfl) (by kernel_rfl) (by kernel_rfl) (fun _ _ _ h => h) ⟨by kernel_rfl, .inr (fun w' _ => by go_simp)⟩ ?_
  simp only [Act.put, List.getElem_toArray, List.getElem_cons_succ, List.getElem_cons_zero, List.setIfInBounds_toArray, List.set_cons_zero, List.set_cons_succ]
  refine call_take (i := 5) (v := (.int .i64 b1)) rfl (by kernel_rfl) (by kernel_rfl) (by kernel_rfl) (fun _ _ _ h => h) ⟨by kernel_rfl, .inr (fun w' hSw => by have hk := (show Km w [(gb, .int .i64 b1, .int .i64 b2), (ga, .int .i64 a1, .int .i64 a2)] w' from hSw).k0; have q0 := hk.c0; have q1 := hk.c1; clear hSw hk; go_simp)⟩ ?_
  simp only [Act.put, List.getElem_toArray, List.getElem_cons_succ, List.getElem_cons_zero, List.setIfInBounds_toArray, List.set_cons_zero, List.set_cons_succ]
  refine call_take (i := 6) (v := (.int .i64 y)) rfl (by kernel_rfl) (by kernel_rfl) (by kernel_rfl) (fun _ _ _ h => h) ⟨by kernel_rfl, .inr (fun w' _ => by go_simp)⟩ ?_
  simp only [Act.put, List.getElem_toArray, List.getElem_cons_succ, List.getElem_cons_zero, List.setIfInBounds_toArray, List.set_cons_zero, List.set_cons_succ]
  refine call_take (i := 7) (v := (.agg #[.int .i64 b1, .int .i64 y])) rfl (by kernel_rfl) (by kernel_rfl) (by kernel_rfl) (fun _ _ _ h => h) ⟨by kernel_rfl, .inl ⟨41, #[.int .i64 b1, .int .i64 y], fun w' => by go_simp, fun w' hw => (IV.out b1 y w').mono fun e u ⟨h1, h2⟩ => ⟨h1, h2, Km.later hw h2⟩⟩⟩ ?_
  simp only [Act.put, List.getElem_toArray, List.getElem_cons_succ, List.getElem_cons_zero, List.setIfInBounds_toArray, List.set_cons_zero, List.set_cons_succ]
  refine E_two (i := 8) (j := 9) rfl rfl (by kernel_rfl) (fun wa hx K hK => ?_) (fun wa hx K hK => ?_)
  case' refine_1 =>
    go_simp
    have KS := hx.2.alloc (.cells #[.int .i64 0, .int .i64 0] 23)
    have cs := Cell2.new wa (.int .i64 0) (.int .i64 0) 23
    have Ns : ∀ t ∈ ([(gb, .int .i64 b1, .int .i64 b2), (ga, .int .i64 a1, .int .i64 a2)] : List (Nat × Value × Value)), t.1 ≠ wa.heap.size := fun t ht => Nat.ne_of_lt (hx.2.keep t ht).lt
    have Gs : w.heap.size ≤ wa.heap.size := hx.2.bl.size
    refine hK _ _ KS ?_
    clear hK K hx
    generalize wa.alloc (.cells #[.int .i64 0, .int .i64 0] 23) = wb at *
    generalize wa.heap.size = gs at *
    refine E_one (i := 9) rfl (by kernel_rfl) (fun wc hx K hK => ?_)
    have cz := cs.later hx.1
    have NEQ : gs ≠ wc.heap.size := Nat.ne_of_lt cz.lt
    have cs := cz.alloc (.cells #[.int .i64 0, .int .i64 0] 23)
    clear cz
    have KS := hx.2.alloc (.cells #[.int .i64 0, .int .i64 0] 23)
    have ct := Cell2.new wc (.int .i64 0) (.int .i64 0) 23
    have Nt : ∀ t ∈ ([(gb, .int .i64 b1, .int .i64 b2), (ga, .int .i64 a1, .int .i64 a2)] : List (Nat × Value × Value)), t.1 ≠ wc.heap.size := fun t ht => Nat.ne_of_lt (hx.2.keep t ht).lt
    have Gt : w.heap.size ≤ wc.heap.size := hx.2.bl.size
    have NE := NEQ
    clear NEQ
    go_simp
    refine hK _ _ KS ?_
    clear hK K hx
    generalize wc.alloc (.cells #[.int .i64 0, .int .i64 0] 23) = wq at *
    generalize wc.heap.size = gt at *
  case' refine_2 =>
    go_simp
    have KS := hx.2.alloc (.cells #[.int .i64 0, .int .i64 0] 23)
    have ct := Cell2.new wa (.int .i64 0) (.int .i64 0) 23
    have Nt : ∀ t ∈ ([(gb, .int .i64 b1, .int .i64 b2), (ga, .int .i64 a1, .int .i64 a2)] : List (Nat × Value × Value)), t.1 ≠ wa.heap.size := fun t ht => Nat.ne_of_lt (hx.2.keep t ht).lt
    have Gt : w.heap.size ≤ wa.heap.size := hx.2.bl.size
    refine hK _ _ KS ?_
    clear hK K hx
    generalize wa.alloc (.cells #[.int .i64 0, .int .i64 0] 23) = wb at *
    generalize wa.heap.size = gt at *
    refine E_one (i := 8) rfl (by kernel_rfl) (fun wc hx K hK => ?_)
    have cz := ct.later hx.1
    have NEQ : gt ≠ wc.heap.size := Nat.ne_of_lt cz.lt
    have ct := cz.alloc (.cells #[.int .i64 0, .int .i64 0] 23)
    clear cz
    have KS := hx.2.alloc (.cells #[.int .i64 0, .int .i64 0] 23)
    have cs := Cell2.new wc (.int .i64 0) (.int .i64 0) 23
    have Ns : ∀ t ∈ ([(gb, .int .i64 b1, .int .i64 b2), (ga, .int .i64 a1, .int .i64 a2)] : List (Nat × Value × Value)), t.1 ≠ wc.heap.size := fun t ht => Nat.ne_of_lt (hx.2.keep t ht).lt
    have Gs : w.heap.size ≤ wc.heap.size := hx.2.bl.size
    have NE := NEQ
    clear NEQ
    go_simp
    refine hK _ _ KS ?_
    clear hK K hx
    generalize wc.alloc (.cells #[.int .i64 0, .int .i64 0] 23) = wq at *
    generalize wc.heap.size = gs at *
    have NE := Ne.symm NE
  all_goals
    have Hs := Lib.hid (And.intro Ns Gs)
    have Ht := Lib.hid (And.intro Nt Gt)
    have HN := Lib.hid NE
    clear Ns Gs Nt Gt NE KS
    refine E_one (i := 10) rfl (by kernel_rfl) (fun wd hx K hK => ?_)
    have KS := hx.2.over2 Hs.out.1 Hs.out.2 (.int .i64 x) (.int .i64 a2)
    have cz := cs.later hx.1
    have q0 := cz.c0
    have q1 := cz.c1
    have q2 := cz.f0
    have q3 := cz.f1
    have cs' := cz.set (.int .i64 x) (.int .i64 a2)
    have ct' := ((ct.later hx.1).setOther (Ne.symm HN.out) 0 (.int .i64 x)).setOther (Ne.symm HN.out) 1 (.int .i64 a2)
    clear cz cs ct hx
    go_simp
    refine hK _ _ KS ?_
    clear hK K q0 q1 q2 q3
    have cs := cs'
    have ct := ct'
    clear cs' ct'
    generalize (wd.setCell ⟨gs, 0, none⟩ (.int .i64 x)).setCell ⟨gs, 1, none⟩ (.int .i64 a2) = wst at *
    clear KS
    refine E_one (i := 11) rfl (by kernel_rfl) (fun wd hx K hK => ?_)
    have KS := hx.2.over2 Ht.out.1 Ht.out.2 (.int .i64 b1) (.int .i64 y)
    have cz := ct.later hx.1
    have q0 := cz.c0
    have q1 := cz.c1
    have q2 := cz.f0
    have q3 := cz.f1
    have ct' := cz.set (.int .i64 b1) (.int .i64 y)
    have cs' := ((cs.later hx.1).setOther HN.out 0 (.int .i64 b1)).setOther HN.out 1 (.int .i64 y)
    clear cz ct cs hx
    go_simp
    refine hK _ _ KS ?_
    clear hK K q0 q1 q2 q3
    have ct := ct'
    have cs := cs'
    clear ct' cs'
    generalize (wd.setCell ⟨gt, 0, none⟩ (.int .i64 b1)).setCell ⟨gt, 1, none⟩ (.int .i64 y) = wts at *
    clear KS
    refine E_done (by kernel_rfl) (fun u hu => ?_) _
    have hk2 : Km w [(gb, .int .i64 b1, .int .i64 b2), (ga, .int .i64 a1, .int .i64 a2)] u := hu.2
    have KM := Lib.hid ((hk2.more (cs.later hu.1)).more (ct.later hu.1))
    clear hk2 hu cs ct Hs Ht HN
    have lgb0 := (KM.out.keep (gb, .int .i64 b1, .int .i64 b2) (by simp)).c0
    have lgb1 := (KM.out.keep (gb, .int .i64 b1, .int .i64 b2) (by simp)).c1
    have lga0 := (KM.out.keep (ga, .int .i64 a1, .int .i64 a2) (by simp)).c0
    have lga1 := (KM.out.keep (ga, .int .i64 a1, .int .i64 a2) (by simp)).c1
    go_wp2_with fail
    refine (HM1.out _).mono ?_
    rintro e w3 ⟨he, hb⟩
    subst he
    clear lgb0 lgb1 lga0 lga1
    have K0 := (KM.out.later hb).alloc (.cells #[.int .i64 c1, .int .i64 c2] 23)
    obtain ⟨w3a, hw3a⟩ : ∃ u, w3.alloc (.cells #[.int .i64 c1, .int .i64 c2] 23) = u := ⟨_, rfl⟩
    obtain ⟨gc, hgc⟩ : ∃ n, w3.heap.size = n := ⟨_, rfl⟩
    have k0 := Cell2.new w3 (.int .i64 c1) (.int .i64 c2) 23
    rw [hw3a, hgc] at k0
    rw [hw3a] at K0
    have KM' := Lib.hid (K0.more k0)
    clear KM K0 k0 hb
    have KM := KM'
    clear KM'
    have lgt0 := (KM.out.keep (gt, .int .i64 b1, .int .i64 y) (by simp)).c0
    have lgt1 := (KM.out.keep (gt, .int .i64 b1, .int .i64 y) (by simp)).c1
    have lgs0 := (KM.out.keep (gs, .int .i64 x, .int .i64 a2) (by simp)).c0
    have lgs1 := (KM.out.keep (gs, .int .i64 x, .int .i64 a2) (by simp)).c1
    go_wp2_with fail
    clear hw3a hgc
    refine (HM2.out _).mono ?_
    rintro e w4 ⟨he, hb⟩
    subst he
    clear lgt0 lgt1 lgs0 lgs1
    have K0 := (KM.out.later hb).alloc (.cells #[.int .i64 d1, .int .i64 d2] 23)
    obtain ⟨w4a, hw4a⟩ : ∃ u, w4.alloc (.cells #[.int .i64 d1, .int .i64 d2] 23) = u := ⟨_, rfl⟩
    obtain ⟨gd, hgd⟩ : ∃ n, w4.heap.size = n := ⟨_, rfl⟩
    have k0 := Cell2.new w4 (.int .i64 d1) (.int .i64 d2) 23
    rw [hw4a, hgd] at k0
    rw [hw4a] at K0
    have KM' := Lib.hid (K0.more k0)
    clear KM K0 k0 hb
    have KM := KM'
    clear KM'
    have lga0 := (KM.out.keep (ga, .int .i64 a1, .int .i64 a2) (by simp)).c0
    have lga1 := (KM.out.keep (ga, .int .i64 a1, .int .i64 a2) (by simp)).c1
    go_wp2_with fail
    clear hw4a hgd
    rw [← HKK.out]
    refine (HP1.out _).mono ?_
    rintro e w5 ⟨he, hb⟩
    subst he
    clear lga0 lga1
    have K0 := (KM.out.later hb).alloc (.cells #[.int .i64 g1, .int .i64 g2] 23)
    obtain ⟨w5a, hw5a⟩ : ∃ u, w5.alloc (.cells #[.int .i64 g1, .int .i64 g2] 23) = u := ⟨_, rfl⟩
    obtain ⟨gg, hgg⟩ : ∃ n, w5.heap.size = n := ⟨_, rfl⟩
    have k0 := Cell2.new w5 (.int .i64 g1) (.int .i64 g2) 23
    rw [hw5a, hgg] at k0
    rw [hw5a] at K0
    have KM' := Lib.hid (K0.more k0)
    clear KM K0 k0 hb
    have KM := KM'
    clear KM'
    have lgs0 := (KM.out.keep (gs, .int .i64 x, .int .i64 a2) (by simp)).c0
    have lgs1 := (KM.out.keep (gs, .int .i64 x, .int .i64 a2) (by simp)).c1
    go_wp2_with fail
    clear hw5a hgg
    (try rw [← HKK.out])
    refine (HP2.out _).mono ?_
    rintro e w6 ⟨he, hb⟩
    subst he
    clear lgs0 lgs1
    have K0 := (KM.out.later hb).alloc (.cells #[.int .i64 i1, .int .i64 i2] 23)
    obtain ⟨w6a, hw6a⟩ : ∃ u, w6.alloc (.cells #[.int .i64 i1, .int .i64 i2] 23) = u := ⟨_, rfl⟩
    obtain ⟨gi, hgi⟩ : ∃ n, w6.heap.size = n := ⟨_, rfl⟩
    have k0 := Cell2.new w6 (.int .i64 i1) (.int .i64 i2) 23
    rw [hw6a, hgi] at k0
    rw [hw6a] at K0
    have KM' := Lib.hid (K0.more k0)
    clear KM K0 k0 hb
    have KM := KM'
    clear KM'
    have lga0 := (KM.out.keep (ga, .int .i64 a1, .int .i64 a2) (by simp)).c0
    have lga1 := (KM.out.keep (ga, .int .i64 a1, .int .i64 a2) (by simp)).c1
    go_wp2_with fail
    clear hw6a hgi
    refine (HI1.out _).mono ?_
    rintro e w7 ⟨he, hb⟩
    subst he
    clear lga0 lga1
    have K0 := (KM.out.later hb).alloc (.cells #[.int .i64 p1, .int .i64 p2] 23)
    obtain ⟨w7a, hw7a⟩ : ∃ u, w7.alloc (.cells #[.int .i64 p1, .int .i64 p2] 23) = u := ⟨_, rfl⟩
    obtain ⟨gp, hgp⟩ : ∃ n, w7.heap.size = n := ⟨_, rfl⟩
    have k0 := Cell2.new w7 (.int .i64 p1) (.int .i64 p2) 23
    rw [hw7a, hgp] at k0
    rw [hw7a] at K0
    have KM' := Lib.hid (K0.more k0)
    clear KM K0 k0 hb
    have KM := KM'
    clear KM'
    have lgs0 := (KM.out.keep (gs, .int .i64 x, .int .i64 a2) (by simp)).c0
    have lgs1 := (KM.out.keep (gs, .int .i64 x, .int .i64 a2) (by simp)).c1
    go_wp2_with fail
    clear hw7a hgp
    refine (HI2.out _).mono ?_
    rintro e w8 ⟨he, hb⟩
    subst he
    clear lgs0 lgs1
    have K0 := (KM.out.later hb).alloc (.cells #[.int .i64 n1, .int .i64 n2] 23)
    obtain ⟨w8a, hw8a⟩ : ∃ u, w8.alloc (.cells #[.int .i64 n1, .int .i64 n2] 23) = u := ⟨_, rfl⟩
    obtain ⟨gn, hgn⟩ : ∃ n, w8.heap.size = n := ⟨_, rfl⟩
    have k0 := Cell2.new w8 (.int .i64 n1) (.int .i64 n2) 23
    rw [hw8a, hgn] at k0
    rw [hw8a] at K0
    have KM' := Lib.hid (K0.more k0)
    clear KM K0 k0 hb
    have KM := KM'
    clear KM'
    have lgd0 := (KM.out.keep (gd, .int .i64 d1, .int .i64 d2) (by simp)).c0
    have lgd1 := (KM.out.keep (gd, .int .i64 d1, .int .i64 d2) (by simp)).c1
    have lgc0 := (KM.out.keep (gc, .int .i64 c1, .int .i64 c2) (by simp)).c0
    have lgc1 := (KM.out.keep (gc, .int .i64 c1, .int .i64 c2) (by simp)).c1
    go_wp2_with fail
    clear hw8a hgn
    refine (N1.out _).mono ?_
    rintro e w9 ⟨he, hb⟩
    subst he
    clear lgd0 lgd1 lgc0 lgc1
    have KM' := Lib.hid (KM.out.later hb)
    clear KM hb
    have KM := KM'
    clear KM'
    have lgd0 := (KM.out.keep (gd, .int .i64 d1, .int .i64 d2) (by simp)).c0
    have lgd1 := (KM.out.keep (gd, .int .i64 d1, .int .i64 d2) (by simp)).c1
    have lgc0 := (KM.out.keep (gc, .int .i64 c1, .int .i64 c2) (by simp)).c0
    have lgc1 := (KM.out.keep (gc, .int .i64 c1, .int .i64 c2) (by simp)).c1
    go_wp2_with fail
    refine (N2.out _).mono ?_
    rintro e w10 ⟨he, hb⟩
    subst he
    clear lgd0 lgd1 lgc0 lgc1
    have KM' := Lib.hid (KM.out.later hb)
    clear KM hb
    have KM := KM'
    clear KM'
    have lgi0 := (KM.out.keep (gi, .int .i64 i1, .int .i64 i2) (by simp)).c0
    have lgi1 := (KM.out.keep (gi, .int .i64 i1, .int .i64 i2) (by simp)).c1
    have lgg0 := (KM.out.keep (gg, .int .i64 g1, .int .i64 g2) (by simp)).c0
    have lgg1 := (KM.out.keep (gg, .int .i64 g1, .int .i64 g2) (by simp)).c1
    go_wp2_with fail
    refine (N3.out _).mono ?_
    rintro e w11 ⟨he, hb⟩
    subst he
    clear lgi0 lgi1 lgg0 lgg1
    have KM' := Lib.hid (KM.out.later hb)
    clear KM hb
    have KM := KM'
    clear KM'
    have lgi0 := (KM.out.keep (gi, .int .i64 i1, .int .i64 i2) (by simp)).c0
    have lgi1 := (KM.out.keep (gi, .int .i64 i1, .int .i64 i2) (by simp)).c1
    have lgg0 := (KM.out.keep (gg, .int .i64 g1, .int .i64 g2) (by simp)).c0
    have lgg1 := (KM.out.keep (gg, .int .i64 g1, .int .i64 g2) (by simp)).c1
    go_wp2_with fail
    refine (N4.out _).mono ?_
    rintro e w12 ⟨he, hb⟩
    subst he
    clear lgi0 lgi1 lgg0 lgg1
    have KM' := Lib.hid (KM.out.later hb)
    clear KM hb
    have KM := KM'
    clear KM'
    have lgn0 := (KM.out.keep (gn, .int .i64 n1, .int .i64 n2) (by simp)).c0
    have lgn1 := (KM.out.keep (gn, .int .i64 n1, .int .i64 n2) (by simp)).c1
    have lgp0 := (KM.out.keep (gp, .int .i64 p1, .int .i64 p2) (by simp)).c0
    have lgp1 := (KM.out.keep (gp, .int .i64 p1, .int .i64 p2) (by simp)).c1
    go_wp2_with fail
    refine (N5.out _).mono ?_
    rintro e w13 ⟨he, hb⟩
    subst he
    clear lgn0 lgn1 lgp0 lgp1
    have KM' := Lib.hid (KM.out.later hb)
    clear KM hb
    have KM := KM'
    clear KM'
    have lgn0 := (KM.out.keep (gn, .int .i64 n1, .int .i64 n2) (by simp)).c0
    have lgn1 := (KM.out.keep (gn, .int .i64 n1, .int .i64 n2) (by simp)).c1
    have lgp0 := (KM.out.keep (gp, .int .i64 p1, .int .i64 p2) (by simp)).c0
    have lgp1 := (KM.out.keep (gp, .int .i64 p1, .int .i64 p2) (by simp)).c1
    go_wp2_with fail
    refine (N6.out _).mono ?_
    rintro e w14 ⟨he, hb⟩
    subst he
    clear lgn0 lgn1 lgp0 lgp1
    have KM' := Lib.hid (KM.out.later hb)
    clear KM hb
    have KM := KM'
    clear KM'
    have lgb0 := (KM.out.keep (gb, .int .i64 b1, .int .i64 b2) (by simp)).c0
    have lgb1 := (KM.out.keep (gb, .int .i64 b1, .int .i64 b2) (by simp)).c1
    have lga0 := (KM.out.keep (ga, .int .i64 a1, .int .i64 a2) (by simp)).c0
    have lga1 := (KM.out.keep (ga, .int .i64 a1, .int .i64 a2) (by simp)).c1
    go_wp2_with fail
    refine (HAD.out _).mono ?_
    rintro e w15 ⟨he, hb⟩
    subst he
    clear lgb0 lgb1 lga0 lga1
    have K0 := (KM.out.later hb).alloc (.cells #[.int .i64 s1, .int .i64 s2] 23)
    obtain ⟨w15a, hw15a⟩ : ∃ u, w15.alloc (.cells #[.int .i64 s1, .int .i64 s2] 23) = u := ⟨_, rfl⟩
    obtain ⟨gu, hgu⟩ : ∃ n, w15.heap.size = n := ⟨_, rfl⟩
    have k0 := Cell2.new w15 (.int .i64 s1) (.int .i64 s2) 23
    rw [hw15a, hgu] at k0
    rw [hw15a] at K0
    have KM' := Lib.hid (K0.more k0)
    clear KM K0 k0 hb
    have KM := KM'
    clear KM'
    have lgu0 := (KM.out.keep (gu, .int .i64 s1, .int .i64 s2) (by simp)).c0
    have lgu1 := (KM.out.keep (gu, .int .i64 s1, .int .i64 s2) (by simp)).c1
    have lgb0 := (KM.out.keep (gb, .int .i64 b1, .int .i64 b2) (by simp)).c0
    have lgb1 := (KM.out.keep (gb, .int .i64 b1, .int .i64 b2) (by simp)).c1
    go_wp2_with fail
    clear hw15a hgu
    refine (HSU.out _).mono ?_
    rintro e w16 ⟨he, hb⟩
    subst he
    clear lgu0 lgu1 lgb0 lgb1
    have K0 := (KM.out.later hb).alloc (.cells #[.int .i64 r1, .int .i64 r2] 23)
    obtain ⟨w16a, hw16a⟩ : ∃ u, w16.alloc (.cells #[.int .i64 r1, .int .i64 r2] 23) = u := ⟨_, rfl⟩
    obtain ⟨gr, hgr⟩ : ∃ n, w16.heap.size = n := ⟨_, rfl⟩
    have k0 := Cell2.new w16 (.int .i64 r1) (.int .i64 r2) 23
    rw [hw16a, hgr] at k0
    rw [hw16a] at K0
    have KM' := Lib.hid (K0.more k0)
    clear KM K0 k0 hb
    have KM := KM'
    clear KM'
    have lgr0 := (KM.out.keep (gr, .int .i64 r1, .int .i64 r2) (by simp)).c0
    have lgr1 := (KM.out.keep (gr, .int .i64 r1, .int .i64 r2) (by simp)).c1
    have lga0 := (KM.out.keep (ga, .int .i64 a1, .int .i64 a2) (by simp)).c0
    have lga1 := (KM.out.keep (ga, .int .i64 a1, .int .i64 a2) (by simp)).c1
    go_wp2_with fail
    clear hw16a hgr
    refine (N7.out _).mono ?_
    rintro e w17 ⟨he, hb⟩
    subst he
    clear lgr0 lgr1 lga0 lga1
    have KM' := Lib.hid (KM.out.later hb)
    clear KM hb
    have KM := KM'
    clear KM'
    have lgr0 := (KM.out.keep (gr, .int .i64 r1, .int .i64 r2) (by simp)).c0
    have lgr1 := (KM.out.keep (gr, .int .i64 r1, .int .i64 r2) (by simp)).c1
    have lga0 := (KM.out.keep (ga, .int .i64 a1, .int .i64 a2) (by simp)).c0
    have lga1 := (KM.out.keep (ga, .int .i64 a1, .int .i64 a2) (by simp)).c1
    go_wp2_with fail
    refine (N8.out _).mono ?_
    rintro e w18 ⟨he, hb⟩
    subst he
    clear lgr0 lgr1 lga0 lga1
    have KM' := Lib.hid (KM.out.later hb)
    clear KM hb
    have KM := KM'
    clear KM'
    have lgb0 := (KM.out.keep (gb, .int .i64 b1, .int .i64 b2) (by simp)).c0
    have lgb1 := (KM.out.keep (gb, .int .i64 b1, .int .i64 b2) (by simp)).c1
    go_wp2_with fail
    cases z
    · have HDI' := Lib.hid (HDI.out rfl)
      have HM3' := Lib.hid (HM3.out rfl)
      have N9' := Lib.hid (N9.out rfl)
      have N10' := Lib.hid (N10.out rfl)
      clear HDI HM3 N9 N10
      refine (HZ.out _).mono ?_
      rintro e w19 ⟨he, hb⟩
      subst he
      clear lgb0 lgb1
      have KM' := Lib.hid (KM.out.later hb)
      clear KM hb
      have KM := KM'
      clear KM'
      have lgb0 := (KM.out.keep (gb, .int .i64 b1, .int .i64 b2) (by simp)).c0
      have lgb1 := (KM.out.keep (gb, .int .i64 b1, .int .i64 b2) (by simp)).c1
      have lga0 := (KM.out.keep (ga, .int .i64 a1, .int .i64 a2) (by simp)).c0
      have lga1 := (KM.out.keep (ga, .int .i64 a1, .int .i64 a2) (by simp)).c1
      go_wp2_with fail
      refine (HDI'.out _).mono ?_
      rintro e w20 ⟨he, hb⟩
      subst he
      clear lgb0 lgb1 lga0 lga1
      have K0 := (KM.out.later hb).alloc (.cells #[.int .i64 q1, .int .i64 q2] 23)
      obtain ⟨w20a, hw20a⟩ : ∃ u, w20.alloc (.cells #[.int .i64 q1, .int .i64 q2] 23) = u := ⟨_, rfl⟩
      obtain ⟨gq, hgq⟩ : ∃ n, w20.heap.size = n := ⟨_, rfl⟩
      have k0 := Cell2.new w20 (.int .i64 q1) (.int .i64 q2) 23
      rw [hw20a, hgq] at k0
      rw [hw20a] at K0
      have KM' := Lib.hid (K0.more k0)
      clear KM K0 k0 hb
      have KM := KM'
      clear KM'
      have lgq0 := (KM.out.keep (gq, .int .i64 q1, .int .i64 q2) (by simp)).c0
      have lgq1 := (KM.out.keep (gq, .int .i64 q1, .int .i64 q2) (by simp)).c1
      have lgb0 := (KM.out.keep (gb, .int .i64 b1, .int .i64 b2) (by simp)).c0
      have lgb1 := (KM.out.keep (gb, .int .i64 b1, .int .i64 b2) (by simp)).c1
      go_wp2_with fail
      clear hw20a hgq
      refine (HM3'.out _).mono ?_
      rintro e w21 ⟨he, hb⟩
      subst he
      clear lgq0 lgq1 lgb0 lgb1
      have K0 := (KM.out.later hb).alloc (.cells #[.int .i64 t1, .int .i64 t2] 23)
      obtain ⟨w21a, hw21a⟩ : ∃ u, w21.alloc (.cells #[.int .i64 t1, .int .i64 t2] 23) = u := ⟨_, rfl⟩
      obtain ⟨gz, hgz⟩ : ∃ n, w21.heap.size = n := ⟨_, rfl⟩
      have k0 := Cell2.new w21 (.int .i64 t1) (.int .i64 t2) 23
      rw [hw21a, hgz] at k0
      rw [hw21a] at K0
      have KM' := Lib.hid (K0.more k0)
      clear KM K0 k0 hb
      have KM := KM'
      clear KM'
      have lgz0 := (KM.out.keep (gz, .int .i64 t1, .int .i64 t2) (by simp)).c0
      have lgz1 := (KM.out.keep (gz, .int .i64 t1, .int .i64 t2) (by simp)).c1
      have lga0 := (KM.out.keep (ga, .int .i64 a1, .int .i64 a2) (by simp)).c0
      have lga1 := (KM.out.keep (ga, .int .i64 a1, .int .i64 a2) (by simp)).c1
      go_wp2_with fail
      clear hw21a hgz
      refine (N9'.out _).mono ?_
      rintro e w22 ⟨he, hb⟩
      subst he
      clear lgz0 lgz1 lga0 lga1
      have KM' := Lib.hid (KM.out.later hb)
      clear KM hb
      have KM := KM'
      clear KM'
      have lgz0 := (KM.out.keep (gz, .int .i64 t1, .int .i64 t2) (by simp)).c0
      have lgz1 := (KM.out.keep (gz, .int .i64 t1, .int .i64 t2) (by simp)).c1
      have lga0 := (KM.out.keep (ga, .int .i64 a1, .int .i64 a2) (by simp)).c0
      have lga1 := (KM.out.keep (ga, .int .i64 a1, .int .i64 a2) (by simp)).c1
      go_wp2_with fail
      refine (N10'.out _).mono ?_
      rintro e w23 ⟨he, hb⟩
      subst he
      clear lgz0 lgz1 lga0 lga1
      have KM' := Lib.hid (KM.out.later hb)
      clear KM hb
      have KM := KM'
      clear KM'
      go_wp2_with fail
      refine (awake_any _).mono ?_
      rintro e wz ⟨he, hb⟩
      subst he
      have HF := Lib.hid (Below.after KM.out.bl hb)
      clear KM hb
      go_wp2_with fail
      go_ret
      exact ⟨rfl, HF.out⟩
    · refine (HZ.out _).mono ?_
      rintro e w19 ⟨he, hb⟩
      subst he
      clear lgb0 lgb1
      have KM' := Lib.hid (KM.out.later hb)
      clear KM hb
      have KM := KM'
      clear KM'
      go_wp2_with fail
      refine (awake_any _).mono ?_
      rintro e wz ⟨he, hb⟩
      subst he
      have HF := Lib.hid (Below.after KM.out.bl hb)
      clear KM hb
      go_wp2_with fail
      go_ret
      exact ⟨rfl, HF.out⟩
end Go.Proofs.Ytmmgbofhbnflkaa
