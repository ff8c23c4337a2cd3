import Derived.Test.YtlmcafcebidliaaDoorKR3
namespace Go.Proofs.YtlmcafcebidliaaDoor
open Go.RowKit

theorem low_neg (v : V6) {d : Int} (hd : d ≠ 0) : lowW (V6.scl (-1) v) (-d) = lowW v d := by
  have hg : (V6.scl (-1) v).g (-d) = v.g d := by
    have h := gl_scl (-1) v.l d.natAbs
    rw [← V6.scl_l] at h
    unfold V6.g
    rw [Int.natAbs_neg]
    simpa using h
  have hgs : (V6.scl (-1) v).gs (-d) = -(v.gs d) := by
    unfold V6.gs
    rw [hg]
    by_cases h : d < 0
    · rw [if_pos h, if_neg (by omega)]; omega
    · rw [if_neg h, if_pos (by omega)]
  have hlo : lowR (V6.scl (-1) v) (-d) = lowR v d := by
    unfold lowR
    rw [hgs]
    refine Rt.eq ?_ ?_
    · unfold V6.quo V6.scl
      refine V6.eq ?_ ?_ ?_ ?_ ?_ ?_ <;> simp only [Int.neg_one_mul, Int.neg_tdiv, Int.tdiv_neg, Int.neg_neg]
    · simp only [Int.neg_tdiv, Int.tdiv_neg, Int.neg_neg]
  unfold lowW
  rw [hlo]
def RpRel (w : World) (B3 k : Int) (A3 : Nat) (X : List Int) (xd : Int) (iv : Value) (wr : World) : Prop :=
  ∃ i : Nat, i ≤ 6 ∧ iv = .int .i64 (i : Int) ∧ RowI wr w.heap.size 40 (X ++ [xd]) ∧ RowI wr (w.heap.size + 1) 40 [0, 0, 0, 0, 0, 0, 0] ∧ RowI wr A3 70 (mixL (X.map (· * k)) zero6 i) ∧ Below w.heap.size w wr
set_option maxRecDepth 100000 in
set_option maxHeartbeats 8000000 in
theorem rPow_any (x0 x1 x2 x3 x4 x5 xd n d : Int) (w : World) :
    Calls Tryd.prog 19 #[.agg #[.int .i64 x0, .int .i64 x1, .int .i64 x2, .int .i64 x3, .int .i64 x4, .int .i64 x5, .int .i64 xd], .int .i64 n, .int .i64 d] w (RtPost w (rpowW ⟨⟨x0, x1, x2, x3, x4, x5⟩, xd⟩ n d)) := by
  have hW : rpowW ⟨⟨x0, x1, x2, x3, x4, x5⟩, xd⟩ n d = if Rt.err ⟨⟨x0, x1, x2, x3, x4, x5⟩, xd⟩ = 0 then (if -1000 ≤ n ∧ n ≤ 1000 ∧ -1000 ≤ d ∧ d ≤ 1000 ∧ d ≠ 0 then lowW (V6.scl n ⟨x0, x1, x2, x3, x4, x5⟩) (xd * d) else (Rt.zero, 2)) else (Rt.zero, Rt.err ⟨⟨x0, x1, x2, x3, x4, x5⟩, xd⟩) := rfl
  have hokx := fun h => (Rt.ok_iff (r := ⟨⟨x0, x1, x2, x3, x4, x5⟩, xd⟩)).1 h
  have hcx := fun W => rCheck_any x0 x1 x2 x3 x4 x5 xd W
  have HOX := Lib.hid hokx
  clear hokx
  generalize rpowW ⟨⟨x0, x1, x2, x3, x4, x5⟩, xd⟩ n d = RW at *
  have HW := Lib.hid hW
  clear hW
  generalize hex : Rt.err ⟨⟨x0, x1, x2, x3, x4, x5⟩, xd⟩ = ex at *
  have HCX := Lib.hid hcx
  clear hex hcx
  go_enter Tryd.func19, Tryd.ntmps19
  have hr2 : RowI ((w.alloc (.cells #[.int .i64 x0, .int .i64 x1, .int .i64 x2, .int .i64 x3, .int .i64 x4, .int .i64 x5, .int .i64 xd] 40)).alloc (.cells #[.int .i64 0, .int .i64 0, .int .i64 0, .int .i64 0, .int .i64 0, .int .i64 0, .int .i64 0] 40)) (w.heap.size + 1) 40 [0, 0, 0, 0, 0, 0, 0] := by
    have h := RowI.of_alloc (w.alloc (.cells #[.int .i64 x0, .int .i64 x1, .int .i64 x2, .int .i64 x3, .int .i64 x4, .int .i64 x5, .int .i64 xd] 40)) 40 [0, 0, 0, 0, 0, 0, 0]
    rw [World.size_alloc] at h
    exact h
  have hr1 : RowI ((w.alloc (.cells #[.int .i64 x0, .int .i64 x1, .int .i64 x2, .int .i64 x3, .int .i64 x4, .int .i64 x5, .int .i64 xd] 40)).alloc (.cells #[.int .i64 0, .int .i64 0, .int .i64 0, .int .i64 0, .int .i64 0, .int .i64 0, .int .i64 0] 40)) w.heap.size 40 [x0, x1, x2, x3, x4, x5, xd] := (RowI.of_alloc w 40 [x0, x1, x2, x3, x4, x5, xd]).alloc _
  have hb0 := (belA w (.cells #[.int .i64 x0, .int .i64 x1, .int .i64 x2, .int .i64 x3, .int .i64 x4, .int .i64 x5, .int .i64 xd] 40)).alloc (by simp) (.cells #[.int .i64 0, .int .i64 0, .int .i64 0, .int .i64 0, .int .i64 0, .int .i64 0, .int .i64 0] 40)
  have HR1 := Lib.hid hr1
  have HR3 := Lib.hid hr2
  have HB0 := Lib.hid hb0
  clear hr1 hr2 hb0
  go_wp2_with fail
  refine (HCX.out _).mono ?_
  rintro e w1 ⟨he, hb1⟩
  subst he
  have hr1 := HR1.out.up hb1
  have hr3 := HR3.out.up hb1
  have hb := HB0.out.trans (hb1.mono (by simp; omega))
  clear HR1 HR3 HB0 hb1 HCX
  have HR1 := Lib.hid hr1
  have HR3 := Lib.hid hr3
  have HB := Lib.hid hb
  have hz := hb.size
  have hlt := hr3.lt
  clear hr1 hr3 hb
  by_cases hx0 : ex = 0
  case neg =>
    have hxb : (ex != 0) = true := by simp [hx0]
    have hWE := HW.out
    rw [if_neg hx0] at hWE
    have HWE := Lib.hid hWE
    clear hWE HW
    obtain ⟨c0, c1, c2, c3, c4, c5, c6⟩ := HR3.out.r7
    simp only [Nat.zero_add] at c0 c1 c2 c3 c4 c5 c6
    have f0 := HR3.out.frozen 0
    have f1 := HR3.out.frozen 1
    have f2 := HR3.out.frozen 2
    have f3 := HR3.out.frozen 3
    have f4 := HR3.out.frozen 4
    have f5 := HR3.out.frozen 5
    have f6 := HR3.out.frozen 6
    go_wp2
    change bodyPost _ _ _ _ _ (putR w1 (w.heap.size + 1) 0 0 0 0 0 0 0)
    clear c0 c1 c2 c3 c4 c5 c6
    obtain ⟨c0, c1, c2, c3, c4, c5, c6⟩ := (putR_row HR3.out 0 0 0 0 0 0 0).r7
    have hB := putR_below HB.out (show w.heap.size ≤ w.heap.size + 1 by omega) 0 0 0 0 0 0 0
    generalize putR w1 (w.heap.size + 1) 0 0 0 0 0 0 0 = W' at *
    simp only [Nat.zero_add] at c0 c1 c2 c3 c4 c5 c6
    refine bodyPost_ret (v := .tuple #[.agg #[.int .i64 0, .int .i64 0, .int .i64 0, .int .i64 0, .int .i64 0, .int .i64 0, .int .i64 0], .int .i64 ex]) (by simp [results, Tryd.results19, c0, c1, c2, c3, c4, c5, c6, go_sem]) rfl ⟨?_, hB⟩
    rw [HWE.out]
    rfl
  subst hx0
  have hWE := HW.out
  rw [if_pos rfl] at hWE
  by_cases hgood : -1000 ≤ n ∧ n ≤ 1000 ∧ -1000 ≤ d ∧ d ≤ 1000 ∧ d ≠ 0
  case neg =>
    rw [if_neg hgood] at hWE
    have HWE := Lib.hid hWE
    clear hWE HW
    by_cases n1 : n < -1000
    · clear hgood
      obtain ⟨c0, c1, c2, c3, c4, c5, c6⟩ := HR3.out.r7
      simp only [Nat.zero_add] at c0 c1 c2 c3 c4 c5 c6
      have f0 := HR3.out.frozen 0
      have f1 := HR3.out.frozen 1
      have f2 := HR3.out.frozen 2
      have f3 := HR3.out.frozen 3
      have f4 := HR3.out.frozen 4
      have f5 := HR3.out.frozen 5
      have f6 := HR3.out.frozen 6
      go_wp2
      change bodyPost _ _ _ _ _ (putR w1 (w.heap.size + 1) 0 0 0 0 0 0 0)
      clear c0 c1 c2 c3 c4 c5 c6
      obtain ⟨c0, c1, c2, c3, c4, c5, c6⟩ := (putR_row HR3.out 0 0 0 0 0 0 0).r7
      have hB := putR_below HB.out (show w.heap.size ≤ w.heap.size + 1 by omega) 0 0 0 0 0 0 0
      generalize putR w1 (w.heap.size + 1) 0 0 0 0 0 0 0 = W' at *
      simp only [Nat.zero_add] at c0 c1 c2 c3 c4 c5 c6
      refine bodyPost_ret (v := .tuple #[.agg #[.int .i64 0, .int .i64 0, .int .i64 0, .int .i64 0, .int .i64 0, .int .i64 0, .int .i64 0], .int .i64 2]) (by simp [results, Tryd.results19, c0, c1, c2, c3, c4, c5, c6, go_sem]) rfl ⟨?_, hB⟩
      rw [HWE.out]
      rfl
    by_cases n2 : 1000 < n
    · clear hgood
      obtain ⟨c0, c1, c2, c3, c4, c5, c6⟩ := HR3.out.r7
      simp only [Nat.zero_add] at c0 c1 c2 c3 c4 c5 c6
      have f0 := HR3.out.frozen 0
      have f1 := HR3.out.frozen 1
      have f2 := HR3.out.frozen 2
      have f3 := HR3.out.frozen 3
      have f4 := HR3.out.frozen 4
      have f5 := HR3.out.frozen 5
      have f6 := HR3.out.frozen 6
      go_wp2
      change bodyPost _ _ _ _ _ (putR w1 (w.heap.size + 1) 0 0 0 0 0 0 0)
      clear c0 c1 c2 c3 c4 c5 c6
      obtain ⟨c0, c1, c2, c3, c4, c5, c6⟩ := (putR_row HR3.out 0 0 0 0 0 0 0).r7
      have hB := putR_below HB.out (show w.heap.size ≤ w.heap.size + 1 by omega) 0 0 0 0 0 0 0
      generalize putR w1 (w.heap.size + 1) 0 0 0 0 0 0 0 = W' at *
      simp only [Nat.zero_add] at c0 c1 c2 c3 c4 c5 c6
      refine bodyPost_ret (v := .tuple #[.agg #[.int .i64 0, .int .i64 0, .int .i64 0, .int .i64 0, .int .i64 0, .int .i64 0, .int .i64 0], .int .i64 2]) (by simp [results, Tryd.results19, c0, c1, c2, c3, c4, c5, c6, go_sem]) rfl ⟨?_, hB⟩
      rw [HWE.out]
      rfl
    by_cases d1 : d < -1000
    · clear hgood
      obtain ⟨c0, c1, c2, c3, c4, c5, c6⟩ := HR3.out.r7
      simp only [Nat.zero_add] at c0 c1 c2 c3 c4 c5 c6
      have f0 := HR3.out.frozen 0
      have f1 := HR3.out.frozen 1
      have f2 := HR3.out.frozen 2
      have f3 := HR3.out.frozen 3
      have f4 := HR3.out.frozen 4
      have f5 := HR3.out.frozen 5
      have f6 := HR3.out.frozen 6
      go_wp2
      change bodyPost _ _ _ _ _ (putR w1 (w.heap.size + 1) 0 0 0 0 0 0 0)
      clear c0 c1 c2 c3 c4 c5 c6
      obtain ⟨c0, c1, c2, c3, c4, c5, c6⟩ := (putR_row HR3.out 0 0 0 0 0 0 0).r7
      have hB := putR_below HB.out (show w.heap.size ≤ w.heap.size + 1 by omega) 0 0 0 0 0 0 0
      generalize putR w1 (w.heap.size + 1) 0 0 0 0 0 0 0 = W' at *
      simp only [Nat.zero_add] at c0 c1 c2 c3 c4 c5 c6
      refine bodyPost_ret (v := .tuple #[.agg #[.int .i64 0, .int .i64 0, .int .i64 0, .int .i64 0, .int .i64 0, .int .i64 0, .int .i64 0], .int .i64 2]) (by simp [results, Tryd.results19, c0, c1, c2, c3, c4, c5, c6, go_sem]) rfl ⟨?_, hB⟩
      rw [HWE.out]
      rfl
    by_cases d2 : 1000 < d
    · clear hgood
      obtain ⟨c0, c1, c2, c3, c4, c5, c6⟩ := HR3.out.r7
      simp only [Nat.zero_add] at c0 c1 c2 c3 c4 c5 c6
      have f0 := HR3.out.frozen 0
      have f1 := HR3.out.frozen 1
      have f2 := HR3.out.frozen 2
      have f3 := HR3.out.frozen 3
      have f4 := HR3.out.frozen 4
      have f5 := HR3.out.frozen 5
      have f6 := HR3.out.frozen 6
      go_wp2
      change bodyPost _ _ _ _ _ (putR w1 (w.heap.size + 1) 0 0 0 0 0 0 0)
      clear c0 c1 c2 c3 c4 c5 c6
      obtain ⟨c0, c1, c2, c3, c4, c5, c6⟩ := (putR_row HR3.out 0 0 0 0 0 0 0).r7
      have hB := putR_below HB.out (show w.heap.size ≤ w.heap.size + 1 by omega) 0 0 0 0 0 0 0
      generalize putR w1 (w.heap.size + 1) 0 0 0 0 0 0 0 = W' at *
      simp only [Nat.zero_add] at c0 c1 c2 c3 c4 c5 c6
      refine bodyPost_ret (v := .tuple #[.agg #[.int .i64 0, .int .i64 0, .int .i64 0, .int .i64 0, .int .i64 0, .int .i64 0, .int .i64 0], .int .i64 2]) (by simp [results, Tryd.results19, c0, c1, c2, c3, c4, c5, c6, go_sem]) rfl ⟨?_, hB⟩
      rw [HWE.out]
      rfl
    have d0 : d = 0 := by omega
    subst d0
    clear hgood
    obtain ⟨c0, c1, c2, c3, c4, c5, c6⟩ := HR3.out.r7
    simp only [Nat.zero_add] at c0 c1 c2 c3 c4 c5 c6
    have f0 := HR3.out.frozen 0
    have f1 := HR3.out.frozen 1
    have f2 := HR3.out.frozen 2
    have f3 := HR3.out.frozen 3
    have f4 := HR3.out.frozen 4
    have f5 := HR3.out.frozen 5
    have f6 := HR3.out.frozen 6
    go_wp2
    change bodyPost _ _ _ _ _ (putR w1 (w.heap.size + 1) 0 0 0 0 0 0 0)
    clear c0 c1 c2 c3 c4 c5 c6
    obtain ⟨c0, c1, c2, c3, c4, c5, c6⟩ := (putR_row HR3.out 0 0 0 0 0 0 0).r7
    have hB := putR_below HB.out (show w.heap.size ≤ w.heap.size + 1 by omega) 0 0 0 0 0 0 0
    generalize putR w1 (w.heap.size + 1) 0 0 0 0 0 0 0 = W' at *
    simp only [Nat.zero_add] at c0 c1 c2 c3 c4 c5 c6
    refine bodyPost_ret (v := .tuple #[.agg #[.int .i64 0, .int .i64 0, .int .i64 0, .int .i64 0, .int .i64 0, .int .i64 0, .int .i64 0], .int .i64 2]) (by simp [results, Tryd.results19, c0, c1, c2, c3, c4, c5, c6, go_sem]) rfl ⟨?_, hB⟩
    rw [HWE.out]
    rfl
  rw [if_pos hgood] at hWE
  obtain ⟨n1, n2, d1, d2, d0⟩ := hgood
  have n1' : ¬ n < -1000 := by omega
  have n2' : ¬ 1000 < n := by omega
  have d1' : ¬ d < -1000 := by omega
  have d2' : ¬ 1000 < d := by omega
  have d0b : (d == 0) = false := beq_false_of_ne d0
  have okx := HOX.out rfl
  obtain ⟨bx0, bx1, bx2, bx3, bx4, bx5, bxd⟩ := okx.nums
  simp only at bx0 bx1 bx2 bx3 bx4 bx5 bxd
  -- the exponent and the root as they are used: k / D, D above 0
  obtain ⟨k, D0, hkD, hD0, hk1, hk2, hD1, hlow⟩ : ∃ k D0 : Int, (d < 0 → k = -n ∧ D0 = -d) ∧ (¬ d < 0 → k = n ∧ D0 = d) ∧ -1000 ≤ k ∧ k ≤ 1000 ∧ (1 ≤ D0 ∧ D0 ≤ 1000) ∧ lowW ⟨x0 * k, x1 * k, x2 * k, x3 * k, x4 * k, x5 * k⟩ (xd * D0) = lowW (V6.scl n ⟨x0, x1, x2, x3, x4, x5⟩) (xd * d) := by
    by_cases h : d < 0
    · refine ⟨-n, -d, fun _ => ⟨rfl, rfl⟩, fun h2 => absurd h h2, by omega, by omega, by omega, ?_⟩
      rw [← low_neg (V6.scl n ⟨x0, x1, x2, x3, x4, x5⟩) (Int.mul_ne_zero (show xd ≠ 0 by omega) d0), show xd * -d = -(xd * d) from Int.mul_neg xd d]
      congr 1
      unfold V6.scl
      refine V6.eq ?_ ?_ ?_ ?_ ?_ ?_ <;> simp only <;> grind
    · refine ⟨n, d, fun h2 => absurd h2 h, fun _ => ⟨rfl, rfl⟩, n1, n2, by omega, ?_⟩
      congr 1
      unfold V6.scl
      refine V6.eq ?_ ?_ ?_ ?_ ?_ ?_ <;> simp only <;> exact Int.mul_comm _ _
  rw [← hlow] at hWE
  have hxl : ∀ m ∈ [x0, x1, x2, x3, x4, x5], -100000 ≤ m ∧ m ≤ 100000 := by
    simp only [List.mem_cons, List.not_mem_nil, or_false, forall_eq_or_imp, forall_eq]
    exact ⟨bx0, bx1, bx2, bx3, bx4, bx5⟩
  have hzl : ∀ m ∈ [x0 * k, x1 * k, x2 * k, x3 * k, x4 * k, x5 * k], -1000000000 ≤ m ∧ m ≤ 1000000000 := by
    simp only [List.mem_cons, List.not_mem_nil, or_false, forall_eq_or_imp, forall_eq]
    have q : ∀ y : Int, -100000 ≤ y ∧ y ≤ 100000 → -1000000000 ≤ y * k ∧ y * k ≤ 1000000000 := fun y hy => by
      have := mul_bd (A := 100000) (B := 1000) hy ⟨hk1, hk2⟩ (by omega)
      omega
    exact ⟨q _ bx0, q _ bx1, q _ bx2, q _ bx3, q _ bx4, q _ bx5⟩
  have hdd := mul_bd (a := xd) (b := D0) (A := 1000) (B := 1000) (by omega) (by omega) (by omega)
  have hdp : 0 < xd * D0 := Int.mul_pos (by omega) (by omega)
  obtain ⟨D, hD⟩ : ∃ D : Nat, xd * D0 = (D : Int) := ⟨(xd * D0).toNat, by omega⟩
  have hma := fun W => made_any (x0 * k) (x1 * k) (x2 * k) (x3 * k) (x4 * k) (x5 * k) D W (by omega) (by omega) hzl
  rw [← hD, ← hWE] at hma
  rw [hD] at hma
  have eD : IntKind.i64.wrap (D : Int) = (D : Int) := IntWalk.i64_in _ (by omega)
  have HMA := Lib.hid hma
  have HXL := Lib.hid hxl
  have HDE := Lib.hid hD
  have HKD := Lib.hid hkD
  have HD0 := Lib.hid hD0
  clear hma hxl hzl hWE HW okx bx0 bx1 bx2 bx3 bx4 bx5 HOX hD hkD hD0 hdd hdp hlow
  by_cases hneg : d < 0
  case' pos =>
    obtain ⟨hk, hDD⟩ := HKD.out hneg
    have hk' : -n = k := hk.symm
    have hDD' : -d = D0 := hDD.symm
    clear hk hDD
    go_wp2
  case' neg =>
    obtain ⟨hk, hDD⟩ := HD0.out hneg
    subst hk hDD
    go_wp2
  all_goals
    have hr1 := HR1.out.alloc (.cells #[.int .i64 0, .int .i64 0, .int .i64 0, .int .i64 0, .int .i64 0, .int .i64 0] 70)
    have hr3 := HR3.out.alloc (.cells #[.int .i64 0, .int .i64 0, .int .i64 0, .int .i64 0, .int .i64 0, .int .i64 0] 70)
    have hr4 : RowI (w1.alloc (.cells #[.int .i64 0, .int .i64 0, .int .i64 0, .int .i64 0, .int .i64 0, .int .i64 0] 70)) w1.heap.size 70 (mixL ([x0, x1, x2, x3, x4, x5].map (· * k)) zero6 0) := RowI.of_alloc w1 70 zero6
    have hb := HB.out.trans ((belA w1 (.cells #[.int .i64 0, .int .i64 0, .int .i64 0, .int .i64 0, .int .i64 0, .int .i64 0] 70)).mono hz)
    clear HR1 HR3 HB
    generalize hB3 : w1.heap.size = B3 at *
    clear hB3
    generalize w1.alloc (.cells #[.int .i64 0, .int .i64 0, .int .i64 0, .int .i64 0, .int .i64 0, .int .i64 0] 70) = W2 at *
    have HR1 := Lib.hid hr1
    have HR3 := Lib.hid hr3
    have HR4 := Lib.hid hr4
    have HB := Lib.hid hb
    clear hr1 hr3 hr4 hb
    go_loopw [10] (fun iv wr => RpRel w 0 k B3 [x0, x1, x2, x3, x4, x5] xd iv wr) (fun iv _ => 6 - (intOf iv).toNat)
    case atStart => exact ⟨0, Nat.zero_le _, rfl, HR1.out, HR3.out, HR4.out, HB.out⟩
    case round =>
      clear HR1 HR3 HR4 HB
      obtain ⟨i, hi, rfl, hrx, hr3, hr4, hb⟩ := hrel
      have HRX := Lib.hid hrx
      have HR3 := Lib.hid hr3
      have HR4 := Lib.hid hr4
      have HB := Lib.hid hb
      clear hrx hr3 hr4 hb
      have nb0 : w.heap.size ≠ B3 := by omega
      have nb1 : w.heap.size + 1 ≠ B3 := by omega
      by_cases hil : i < 6
      · obtain ⟨x, hx⟩ : ∃ x, [x0, x1, x2, x3, x4, x5][i]? = some x := ⟨[x0, x1, x2, x3, x4, x5][i], List.getElem?_eq_getElem _⟩
        have hxb := HXL.out x (List.mem_of_getElem? hx)
        have kx := HRX.out.cell (at7 (d := xd) hx)
        obtain ⟨o, ho⟩ := mixL_at (Z := [x0, x1, x2, x3, x4, x5].map (· * k)) (O := zero6) (i := i) rfl hil
        have kz := HR4.out.cell ho
        have fz := HR4.out.frozen i
        have hset := mixL_set (Z := [x0, x1, x2, x3, x4, x5].map (· * k)) (O := zero6) (i := i) rfl (map_at hx)
        have hilI : (i : Int) < 6 := by omega
        have hiI : (0 : Int) ≤ (i : Int) := by omega
        have p1 := mul_bd (A := 100000) (B := 1000) hxb ⟨hk1, hk2⟩ (by omega)
        obtain ⟨T, hT⟩ : ∃ T, x * k = T := ⟨_, rfl⟩
        rw [hT] at p1
        simp only [hT] at hset
        have e4 : IntKind.i64.wrap T = T := IntWalk.i64_in _ (by omega)
        have HSET := Lib.hid hset
        clear hx ho hset
        go_wp2
        refine ⟨⟨i + 1, by omega, by go_num, HRX.out.other _ nb0, HR3.out.other _ nb1, ?_, HB.out.setCell (by show w.heap.size ≤ B3; omega) _⟩, by simp [intOf]; omega⟩
        have h := HR4.out.set i T
        rw [HSET.out] at h
        exact h
      · obtain rfl : i = 6 := by omega
        have hl6 : mixL ([x0, x1, x2, x3, x4, x5].map (· * k)) zero6 6 = [x0 * k, x1 * k, x2 * k, x3 * k, x4 * k, x5 * k] := rfl
        have hrow := HR4.out
        rw [hl6] at hrow
        clear HR4 hl6
        generalize x0 * k = z0 at *
        generalize x1 * k = z1 at *
        generalize x2 * k = z2 at *
        generalize x3 * k = z3 at *
        generalize x4 * k = z4 at *
        generalize x5 * k = z5 at *
        have m0 := hrow.cell (i := 0) (x := z0) rfl
        have m1 := hrow.cell (i := 1) (x := z1) rfl
        have m2 := hrow.cell (i := 2) (x := z2) rfl
        have m3 := hrow.cell (i := 3) (x := z3) rfl
        have m4 := hrow.cell (i := 4) (x := z4) rfl
        have m5 := hrow.cell (i := 5) (x := z5) rfl
        have kxd := HRX.out.cell (i := 6) (x := xd) rfl
        have hDE := HDE.out
        have hz2 := HB.out.size
        clear hrow
        go_wp2_with fail
        refine (HMA.out _).mono ?_
        rintro e w3 ⟨he, hb3⟩
        clear hDE HDE HMA m0 m1 m2 m3 m4 m5 kxd
        obtain ⟨⟨⟨r0, r1, r2, r3, r4, r5⟩, rd⟩, re⟩ := RW
        unfold rtv at he
        simp only at he
        subst he
        have hr3 := HR3.out.up hb3
        have hb := HB.out.trans (hb3.mono hz2)
        clear HR3 HB hb3
        have HR3 := Lib.hid hr3
        have HB := Lib.hid hb
        clear hr3 hb
        obtain ⟨c0, c1, c2, c3, c4, c5, c6⟩ := HR3.out.r7
        simp only [Nat.zero_add] at c0 c1 c2 c3 c4 c5 c6
        have f0 := HR3.out.frozen 0
        have f1 := HR3.out.frozen 1
        have f2 := HR3.out.frozen 2
        have f3 := HR3.out.frozen 3
        have f4 := HR3.out.frozen 4
        have f5 := HR3.out.frozen 5
        have f6 := HR3.out.frozen 6
        go_wp2
        change bodyPost _ _ _ _ _ (putR w3 (w.heap.size + 1) r0 r1 r2 r3 r4 r5 rd)
        clear c0 c1 c2 c3 c4 c5 c6
        obtain ⟨c0, c1, c2, c3, c4, c5, c6⟩ := (putR_row HR3.out r0 r1 r2 r3 r4 r5 rd).r7
        have hB := putR_below HB.out (show w.heap.size ≤ w.heap.size + 1 by omega) r0 r1 r2 r3 r4 r5 rd
        generalize putR w3 (w.heap.size + 1) r0 r1 r2 r3 r4 r5 rd = W' at *
        simp only [Nat.zero_add] at c0 c1 c2 c3 c4 c5 c6
        refine bodyPost_ret (v := .tuple #[.agg #[.int .i64 r0, .int .i64 r1, .int .i64 r2, .int .i64 r3, .int .i64 r4, .int .i64 r5, .int .i64 rd], .int .i64 re]) (by simp [results, Tryd.results19, c0, c1, c2, c3, c4, c5, c6, go_sem]) rfl ⟨?_, hB⟩
        rfl

end Go.Proofs.YtlmcafcebidliaaDoor
