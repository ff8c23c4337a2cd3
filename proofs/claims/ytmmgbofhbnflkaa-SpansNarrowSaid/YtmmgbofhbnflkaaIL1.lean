import Derived.Test.YtmmgbofhbnflkaaIE
namespace Go.Proofs.Ytmmgbofhbnflkaa
open Go.RowKit

/-! The law's own functions. -/
theorem iv_g : ∀ (x y : Int) (w : World),
    Calls Try.prog 41 #[.int .i64 x, .int .i64 y] w fun e w' => e = .returned (.agg #[.int .i64 x, .int .i64 y]) ∧ Below w.heap.size w w' := by
  intro x y w
  go_enter Try.func41, Try.ntmps41
  go_wp2_with fail
  refine bodyPost_ret (v := .agg #[.int .i64 x, .int .i64 y]) (by simp [results, Try.results41, go_sem]) rfl ⟨rfl, below_alloc w _⟩
theorem in_any (n : Int) (a : Int × Int) (w : World) :
    Calls Try.prog 38 #[.int .i64 n, ivV a] w fun e w' => e = .returned (.bool (decide (a.1 ≤ n) && decide (n ≤ a.2))) ∧ Below w.heap.size w w' := by
  obtain ⟨x, y⟩ := a
  unfold ivV
  simp only
  cases h1 : decide (x ≤ n)
  · go_enter Try.func38, Try.ntmps38
    go_wp2_with fail
    go_ret
    exact ⟨rfl, below_alloc w _⟩
  · go_enter Try.func38, Try.ntmps38
    go_wp2_with fail
    go_ret
    exact ⟨rfl, below_alloc w _⟩
theorem down_r {x y : Int} (hy : y ≠ 0) : (x.tmod y ≠ 0 ∧ ¬(x < 0 ↔ y < 0) → downI x y = x.tdiv y - 1) ∧ (¬ (x.tmod y ≠ 0 ∧ ¬(x < 0 ↔ y < 0)) → downI x y = x.tdiv y) :=
  ⟨fun h => by rw [← down_of_trunc hy, if_pos h], fun h => by rw [← down_of_trunc hy, if_neg h]⟩
theorem tdiv_small {x : Int} (y : Int) (hx : -4611686018427387904 ≤ x ∧ x ≤ 4611686018427387904) : -4611686018427387904 ≤ x.tdiv y ∧ x.tdiv y ≤ 4611686018427387904 := by
  have h : (x.tdiv y).natAbs ≤ x.natAbs := by
    rw [Int.natAbs_tdiv]
    exact Nat.div_le_self _ _
  omega
theorem down_law (x y : Int) (w : World) (hx : -4611686018427387904 ≤ x ∧ x ≤ 4611686018427387904) (hy : y ≠ 0) :
    Calls Try.prog 66 #[.int .i64 x, .int .i64 y] w fun e w' => e = .returned (.int .i64 (downI x y)) ∧ w' = w := by
  have hd := down_r (x := x) hy
  have hb := tdiv_small y hx
  have e1 : wrap64 (x.tdiv y) = x.tdiv y := wrap64_of (by unfold I64; omega)
  have e2 : wrap64 (x.tdiv y - 1) = x.tdiv y - 1 := wrap64_of (by unfold I64; omega)
  generalize downI x y = R at *
  have HD := Lib.hid hd
  clear hd hb hx
  obtain ⟨b1, h1⟩ : ∃ b, (x.tmod y != 0) = b := ⟨_, rfl⟩
  obtain ⟨b2, h2⟩ : ∃ b, decide (x < 0) = b := ⟨_, rfl⟩
  obtain ⟨b3, h3⟩ : ∃ b, decide (y < 0) = b := ⟨_, rfl⟩
  cases b1 <;> cases b2 <;> cases b3
  all_goals
    go_enter Try.func66, Try.ntmps66
    go_wp2_with fail
    go_ret
    refine ⟨ret_int ?_, rfl⟩
    simp only [bne_iff_ne, bne_eq_false_iff_eq, decide_eq_true_eq, decide_eq_false_iff_not] at h1 h2 h3
    have hd := HD.out
    simp only [e1, e2]
    generalize x.tdiv y = q at *
    generalize x.tmod y = t at *
    clear HD e1 e2
    omega
theorem emod_of_tmod {n m : Int} (h0 : 0 ≤ n) : n.tmod m = n % m := Int.tmod_eq_emod_of_nonneg h0
theorem Fm.more {w w' : World} {K : List (Nat × Value × Value)} {r g : Nat} {x y : Value} (h : Fm w K r w') (k : Cell2 w' g x y) (hne : g ≠ r) : Fm w (K ++ [(g, x, y)]) r w' where
  keep := fun t ht => by
    rcases List.mem_append.1 ht with h1 | h1
    · exact h.keep t h1
    · obtain rfl : t = (g, x, y) := by simpa using h1
      exact k
  ne := fun t ht => by
    rcases List.mem_append.1 ht with h1 | h1
    · exact h.ne t h1
    · obtain rfl : t = (g, x, y) := by simpa using h1
      exact hne
  res := h.res
  bl := h.bl
  hr := h.hr
set_option maxRecDepth 100000 in
theorem of_any (l0 l1 n lo hi x : Int) (w : World) (h0 : -2147483648 ≤ l0 ∧ l0 ≤ 2147483647) (h1 : -2147483648 ≤ l1 ∧ l1 ≤ 2147483647) (hn : 0 ≤ n ∧ n ≤ 4294967295) (hlo : lo = min l0 l1) (hhi : hi = max l0 l1) (hx : x = lo + n % (hi - lo + 1)) :
    Calls Try.prog 37 #[.agg #[.int .i32 l0, .int .i32 l1], .int .u32 n] w fun e w' => e = .returned (.tuple #[.agg #[.int .i64 lo, .int .i64 hi], .int .i64 x]) ∧ Below w.heap.size w w' := by
  have b1 : -2147483648 ≤ lo ∧ lo ≤ hi ∧ hi ≤ 2147483647 := by omega
  have e1 : wrap64 (hi - lo) = hi - lo := wrap64_of (by unfold I64; omega)
  have e2 : wrap64 (hi - lo + 1) = hi - lo + 1 := wrap64_of (by unfold I64; omega)
  have e3 : hi - lo + 1 ≠ 0 := by omega
  have e4 : n.tmod (hi - lo + 1) = n % (hi - lo + 1) := Int.tmod_eq_emod_of_nonneg hn.1
  have e5 : wrap64 (lo + n % (hi - lo + 1)) = x := by
    have h2 := Int.emod_nonneg n e3
    have h3 := Int.emod_lt_of_pos n (show 0 < hi - lo + 1 by omega)
    rw [hx]
    exact wrap64_of (by unfold I64; omega)
  have HLO := Lib.hid hlo
  have HHI := Lib.hid hhi
  have IV := Lib.hid iv_g
  clear hlo hhi hx b1
  go_enter Try.func37, Try.ntmps37
  go_wp2_with fail
  rw [← HLO.out, ← HHI.out]
  refine (IV.out lo hi _).mono ?_
  rintro e w1 ⟨he, hb⟩
  subst he
  have F1 := Fm.of2 hb
  clear hb
  have k := Cell2.new w1 (.int .i64 lo) (.int .i64 hi) 23
  have c10 := k.c0
  have c11 := k.c1
  have F2 := Fm.more (F1.alloc (.cells #[.int .i64 lo, .int .i64 hi] 23)) k (by obtain ⟨p, q, hr⟩ := F1.res; exact Nat.ne_of_gt hr.lt)
  clear k
  go_wp2_with fail
  have i1 : IntKind.i64.wrap (hi - lo) = hi - lo := (IntWalk.i64_left _).trans e1
  have i2 : IntKind.i64.wrap (hi - lo + 1) = hi - lo + 1 := (IntWalk.i64_left _).trans e2
  have i3 : IntKind.i64.wrap n = n := (IntWalk.i64_left _).trans (wrap64_of (by unfold I64; omega))
  have i4 : IntKind.i64.wrap (lo + n % (hi - lo + 1)) = x := (IntWalk.i64_left _).trans e5
  have i5 : (hi - lo + 1 == 0) = false := by simp [e3]
  clear c10 c11 F1 IV HLO HHI
  have hg := F2.ne
  generalize w1.alloc (.cells #[.int .i64 lo, .int .i64 hi] 23) = w2 at *
  generalize w1.heap.size = g at *
  have SO := Lib.hid (show ∀ u, Fm w [(w.heap.size, .int .i32 l0, .int .i32 l1), (g, .int .i64 lo, .int .i64 hi)] (w.heap.size + 1) u → (Fm w [(w.heap.size, .int .i32 l0, .int .i32 l1), (g, .int .i64 lo, .int .i64 hi)] (w.heap.size + 1) u ∧ u.cell? ⟨g, 0, none⟩ = some (.int .i64 lo) ∧ u.cell? ⟨g, 1, none⟩ = some (.int .i64 hi)) from fun u h => ⟨h, h.k1.c0, h.k1.c1⟩)
  have LK := Lib.hid (show ∀ u, (Fm w [(w.heap.size, .int .i32 l0, .int .i32 l1), (g, .int .i64 lo, .int .i64 hi)] (w.heap.size + 1) u ∧ u.cell? ⟨g, 0, none⟩ = some (.int .i64 lo) ∧ u.cell? ⟨g, 1, none⟩ = some (.int .i64 hi)) → u.cell? ⟨g, 0, none⟩ = some (.int .i64 lo) ∧ u.cell? ⟨g, 1, none⟩ = some (.int .i64 hi) from fun u h => h.2)
  refine E_start (S := fun u => Fm w [(w.heap.size, .int .i32 l0, .int .i32 l1), (g, .int .i64 lo, .int .i64 hi)] (w.heap.size + 1) u ∧ u.cell? ⟨g, 0, none⟩ = some (.int .i64 lo) ∧ u.cell? ⟨g, 1, none⟩ = some (.int .i64 hi)) (by kernel_rfl) (SO.out _ F2.drew) ?_
  clear F2
  refine call_take (i := 0) (v := (.agg #[.int .i64 lo, .int .i64 hi])) rfl (by kernel_rfl) (by kernel_rfl) (by kernel_rfl) (fun _ _ _ h => h) ⟨by kernel_rfl, .inr (fun w' hSw => by have q0 := (LK.out w' hSw).1; have q1 := (LK.out w' hSw).2; clear hSw; go_simp)⟩ ?_
  simp only [Act.put, List.getElem_toArray, List.getElem_cons_succ, List.getElem_cons_zero, List.setIfInBounds_toArray, List.set_cons_zero, List.set_cons_succ]
  refine call_take (i := 1) (v := (.pointer (some ⟨g, 0, none⟩))) rfl (by kernel_rfl) (by kernel_rfl) (by kernel_rfl) (fun _ _ _ h => h) ⟨by kernel_rfl, .inr (fun w' _ => by go_simp)⟩ ?_
  simp only [Act.put, List.getElem_toArray, List.getElem_cons_succ, List.getElem_cons_zero, List.setIfInBounds_toArray, List.set_cons_zero, List.set_cons_succ]
  refine call_take (i := 2) (v := (.int .i64 lo)) rfl (by kernel_rfl) (by kernel_rfl) (by kernel_rfl) (fun _ _ _ h => h) ⟨by kernel_rfl, .inr (fun w' hSw => by have q0 := (LK.out w' hSw).1; have q1 := (LK.out w' hSw).2; clear hSw; go_simp)⟩ ?_
  simp only [Act.put, List.getElem_toArray, List.getElem_cons_succ, List.getElem_cons_zero, List.setIfInBounds_toArray, List.set_cons_zero, List.set_cons_succ]
  refine call_take (i := 3) (v := (.int .u32 n)) rfl (by kernel_rfl) (by kernel_rfl) (by kernel_rfl) (fun _ _ _ h => h) ⟨by kernel_rfl, .inr (fun w' _ => by go_simp)⟩ ?_
  simp only [Act.put, List.getElem_toArray, List.getElem_cons_succ, List.getElem_cons_zero, List.setIfInBounds_toArray, List.set_cons_zero, List.set_cons_succ]
  refine call_take (i := 4) (v := (.int .i64 n)) rfl (by kernel_rfl) (by kernel_rfl) (by kernel_rfl) (fun _ _ _ h => h) ⟨by kernel_rfl, .inr (fun w' _ => by go_simp)⟩ ?_
  simp only [Act.put, List.getElem_toArray, List.getElem_cons_succ, List.getElem_cons_zero, List.setIfInBounds_toArray, List.set_cons_zero, List.set_cons_succ]
  refine call_take (i := 5) (v := (.pointer (some ⟨g, 1, none⟩))) rfl (by kernel_rfl) (by kernel_rfl) (by kernel_rfl) (fun _ _ _ h => h) ⟨by kernel_rfl, .inr (fun w' _ => by go_simp)⟩ ?_
  simp only [Act.put, List.getElem_toArray, List.getElem_cons_succ, List.getElem_cons_zero, List.setIfInBounds_toArray, List.set_cons_zero, List.set_cons_succ]
  refine call_take (i := 6) (v := (.int .i64 hi)) rfl (by kernel_rfl) (by kernel_rfl) (by kernel_rfl) (fun _ _ _ h => h) ⟨by kernel_rfl, .inr (fun w' hSw => by have q0 := (LK.out w' hSw).1; have q1 := (LK.out w' hSw).2; clear hSw; go_simp)⟩ ?_
  simp only [Act.put, List.getElem_toArray, List.getElem_cons_succ, List.getElem_cons_zero, List.setIfInBounds_toArray, List.set_cons_zero, List.set_cons_succ]
  refine call_take (i := 7) (v := (.pointer (some ⟨g, 0, none⟩))) rfl (by kernel_rfl) (by kernel_rfl) (by kernel_rfl) (fun _ _ _ h => h) ⟨by kernel_rfl, .inr (fun w' _ => by go_simp)⟩ ?_
  simp only [Act.put, List.getElem_toArray, List.getElem_cons_succ, List.getElem_cons_zero, List.setIfInBounds_toArray, List.set_cons_zero, List.set_cons_succ]
  refine call_take (i := 8) (v := (.int .i64 lo)) rfl (by kernel_rfl) (by kernel_rfl) (by kernel_rfl) (fun _ _ _ h => h) ⟨by kernel_rfl, .inr (fun w' hSw => by have q0 := (LK.out w' hSw).1; have q1 := (LK.out w' hSw).2; clear hSw; go_simp)⟩ ?_
  simp only [Act.put, List.getElem_toArray, List.getElem_cons_succ, List.getElem_cons_zero, List.setIfInBounds_toArray, List.set_cons_zero, List.set_cons_succ]
  refine call_take (i := 9) (v := (.int .i64 (hi - lo))) rfl (by kernel_rfl) (by kernel_rfl) (by kernel_rfl) (fun _ _ _ h => h) ⟨by kernel_rfl, .inr (fun w' _ => by go_simp)⟩ ?_
  simp only [Act.put, List.getElem_toArray, List.getElem_cons_succ, List.getElem_cons_zero, List.setIfInBounds_toArray, List.set_cons_zero, List.set_cons_succ]
  refine call_take (i := 10) (v := (.int .i64 (hi - lo + 1))) rfl (by kernel_rfl) (by kernel_rfl) (by kernel_rfl) (fun _ _ _ h => h) ⟨by kernel_rfl, .inr (fun w' _ => by go_simp)⟩ ?_
  simp only [Act.put, List.getElem_toArray, List.getElem_cons_succ, List.getElem_cons_zero, List.setIfInBounds_toArray, List.set_cons_zero, List.set_cons_succ]
  refine call_take (i := 11) (v := (.int .i64 (n % (hi - lo + 1)))) rfl (by kernel_rfl) (by kernel_rfl) (by kernel_rfl) (fun _ _ _ h => h) ⟨by kernel_rfl, .inr (fun w' _ => by go_simp)⟩ ?_
  simp only [Act.put, List.getElem_toArray, List.getElem_cons_succ, List.getElem_cons_zero, List.setIfInBounds_toArray, List.set_cons_zero, List.set_cons_succ]
  refine call_take (i := 12) (v := (.int .i64 x)) rfl (by kernel_rfl) (by kernel_rfl) (by kernel_rfl) (fun _ _ _ h => h) ⟨by kernel_rfl, .inr (fun w' _ => by go_simp)⟩ ?_
  simp only [Act.put, List.getElem_toArray, List.getElem_cons_succ, List.getElem_cons_zero, List.setIfInBounds_toArray, List.set_cons_zero, List.set_cons_succ]
  refine E_one (i := 13) rfl (by kernel_rfl) (fun w6 hx K hK => ?_)
  obtain ⟨p, q, hr⟩ := hx.2.1.res
  have c30 := hr.c0
  have c31 := hr.c1
  have f30 := hr.f0
  have f31 := hr.f1
  have HX := Lib.hid hx
  have HR := Lib.hid hr
  clear hx hr
  go_simp
  refine hK _ _ (SO.out _ (HX.out.2.1.set _ _)) ?_
  clear hK K
  have hr2 := HR.out.set (.int .i64 lo) (.int .i64 hi)
  clear c30 c31 f30 f31 HR HX
  generalize (w6.setCell ⟨w.heap.size + 1, 0, none⟩ (.int .i64 lo)).setCell ⟨w.heap.size + 1, 1, none⟩ (.int .i64 hi) = w7 at *
  refine E_one (i := 14) rfl (by kernel_rfl) (fun w8 hx K hK => ?_)
  have hr3 := hr2.later hx.1
  go_simp
  refine hK _ _ hx.2 ?_
  clear hK K
  refine E_done (by kernel_rfl) (fun u hu => ?_) _
  have hr4 := hr3.later hu.1
  have HB := Lib.hid hu.2.1.bl
  have c30 := hr4.c0
  have c31 := hr4.c1
  clear hu hx hr2 hr3 hr4 SO LK
  go_wp2_with fail
  refine bodyPost_ret (v := .tuple #[.agg #[.int .i64 lo, .int .i64 hi], .int .i64 x]) (by simp [results, Try.results37, c30, c31, go_sem]) rfl ⟨rfl, HB.out⟩
end Go.Proofs.Ytmmgbofhbnflkaa
