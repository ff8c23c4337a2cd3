import Derived.Test.YtmmgbofhbnflkaaIL3
import Derived.Test.YtmmgbofhbnflkaaI13
namespace Go.Proofs.Ytmmgbofhbnflkaa
open Go.RowKit

theorem corners_any (which : Nat) (a b : Int × Int) (w : World) (ha : Iv31 a) (hb : Iv31 b) (h0 : which ≤ 3) (h : which = 3 → ¬ (b.1 ≤ 0 ∧ 0 ≤ b.2)) :
    Calls Try.prog 40 #[ivV a, ivV b, .int .i64 (which : Int)] w fun e w' => e = .returned (ivV (cornW which a b)) ∧ Below w.heap.size w w' := by
  unfold Iv31 at ha hb
  refine corners_walk a.1 a.2 b.1 b.2 which _ _ _ _ _ _ _ _ _ _ _ _ _ _ w
    (fun w => value_any which a.1 b.1 w (by omega) (by omega) h0 (fun e => by have := h e; omega)) (fun w => value_any which a.2 b.1 w (by omega) (by omega) h0 (fun e => by have := h e; omega))
    (fun w => value_any which a.1 b.2 w (by omega) (by omega) h0 (fun e => by have := h e; omega)) (fun w => value_any which a.2 b.2 w (by omega) (by omega) h0 (fun e => by have := h e; omega)) ?_ ?_ rfl rfl rfl rfl
  · show min (valW which a.1 b.1).1 (valW which a.2 b.1).1 = _
    rfl
  · rfl
theorem Km.more {w w' : World} {K : List (Nat × Value × Value)} {g : Nat} {x y : Value} (h : Km w K w') (k : Cell2 w' g x y) : Km w ((g, x, y) :: K) w' :=
  ⟨fun t ht => (List.mem_cons.1 ht).elim (fun e => by subst e; exact k) (h.keep t), h.bl⟩
theorem Km.alloc {w w' : World} {K : List (Nat × Value × Value)} (h : Km w K w') (o : Obj) : Km w K (w'.alloc o) := h.later (below_alloc w' o)
theorem Km.drewN {w w' : World} {K : List (Nat × Value × Value)} (h : Km w K w') (n : Nat) : Km w K (w'.drewN n) := h.later (below_drewN w' n)
theorem Km.k2 {w w' : World} {t t' : Nat × Value × Value} {g : Nat} {x y : Value} {K : List (Nat × Value × Value)} (h : Km w (t :: t' :: (g, x, y) :: K) w') : Cell2 w' g x y := h.keep _ (List.mem_cons_of_mem _ (List.mem_cons_of_mem _ List.mem_cons_self))
theorem Km.k3 {w w' : World} {t t' t'' : Nat × Value × Value} {g : Nat} {x y : Value} {K : List (Nat × Value × Value)} (h : Km w (t :: t' :: t'' :: (g, x, y) :: K) w') : Cell2 w' g x y := h.keep _ (List.mem_cons_of_mem _ (List.mem_cons_of_mem _ (List.mem_cons_of_mem _ List.mem_cons_self)))
theorem Km.of {w w' : World} (h : Below w.heap.size w w') : Km w [] w' := ⟨fun _ ht => (by cases ht), h⟩

set_option maxRecDepth 100000 in
set_option maxHeartbeats 4000000 in
theorem inside_walk (l0 l1 m0 m1 u v a1 a2 b1 b2 x y c0 d0 p0 q0 c1 d1 p1 q1 c2 d2 p2 q2 c3 d3 p3 q3 e3 : Int) (z : Bool) (w : World)
    (HA : ∀ w, Calls Try.prog 37 #[.agg #[.int .i32 l0, .int .i32 l1], .int .u32 u] w fun e w' => e = .returned (.tuple #[(.agg #[.int .i64 a1, .int .i64 a2]), .int .i64 x]) ∧ Below w.heap.size w w')
    (HB : ∀ w, Calls Try.prog 37 #[.agg #[.int .i32 m0, .int .i32 m1], .int .u32 v] w fun e w' => e = .returned (.tuple #[(.agg #[.int .i64 b1, .int .i64 b2]), .int .i64 y]) ∧ Below w.heap.size w w')
    (HZ : ∀ w, Calls Try.prog 38 #[.int .i64 0, (.agg #[.int .i64 b1, .int .i64 b2])] w fun e w' => e = .returned (.bool z) ∧ Below w.heap.size w w')
    (hz : z = true → e3 = 9) (hz' : z = false → e3 = 0)
    (O0 : ∀ w, Calls Try.prog 10 #[(.agg #[.int .i64 a1, .int .i64 a2]), (.agg #[.int .i64 b1, .int .i64 b2])] w fun e w' => e = .returned (.tuple #[.agg #[.int .i64 c0, .int .i64 d0], .int .i64 0]) ∧ Below w.heap.size w w')
    (V0 : ∀ w, Calls Try.prog 39 #[.int .i64 x, .int .i64 y, .int .i64 0] w fun e w' => e = .returned (.agg #[.int .i64 p0, .int .i64 q0]) ∧ Below w.heap.size w w')
    (I0 : ∀ w, Calls Try.prog 38 #[.int .i64 p0, .agg #[.int .i64 c0, .int .i64 d0]] w fun e w' => e = .returned (.bool true) ∧ Below w.heap.size w w')
    (J0 : ∀ w, Calls Try.prog 38 #[.int .i64 q0, .agg #[.int .i64 c0, .int .i64 d0]] w fun e w' => e = .returned (.bool true) ∧ Below w.heap.size w w')
    (C0 : ∀ w, Calls Try.prog 40 #[(.agg #[.int .i64 a1, .int .i64 a2]), (.agg #[.int .i64 b1, .int .i64 b2]), .int .i64 0] w fun e w' => e = .returned (.agg #[.int .i64 c0, .int .i64 d0]) ∧ Below w.heap.size w w')
    (O1 : ∀ w, Calls Try.prog 12 #[(.agg #[.int .i64 a1, .int .i64 a2]), (.agg #[.int .i64 b1, .int .i64 b2])] w fun e w' => e = .returned (.tuple #[.agg #[.int .i64 c1, .int .i64 d1], .int .i64 0]) ∧ Below w.heap.size w w')
    (V1 : ∀ w, Calls Try.prog 39 #[.int .i64 x, .int .i64 y, .int .i64 1] w fun e w' => e = .returned (.agg #[.int .i64 p1, .int .i64 q1]) ∧ Below w.heap.size w w')
    (I1 : ∀ w, Calls Try.prog 38 #[.int .i64 p1, .agg #[.int .i64 c1, .int .i64 d1]] w fun e w' => e = .returned (.bool true) ∧ Below w.heap.size w w')
    (J1 : ∀ w, Calls Try.prog 38 #[.int .i64 q1, .agg #[.int .i64 c1, .int .i64 d1]] w fun e w' => e = .returned (.bool true) ∧ Below w.heap.size w w')
    (C1 : ∀ w, Calls Try.prog 40 #[(.agg #[.int .i64 a1, .int .i64 a2]), (.agg #[.int .i64 b1, .int .i64 b2]), .int .i64 1] w fun e w' => e = .returned (.agg #[.int .i64 c1, .int .i64 d1]) ∧ Below w.heap.size w w')
    (O2 : ∀ w, Calls Try.prog 16 #[(.agg #[.int .i64 a1, .int .i64 a2]), (.agg #[.int .i64 b1, .int .i64 b2])] w fun e w' => e = .returned (.tuple #[.agg #[.int .i64 c2, .int .i64 d2], .int .i64 0]) ∧ Below w.heap.size w w')
    (V2 : ∀ w, Calls Try.prog 39 #[.int .i64 x, .int .i64 y, .int .i64 2] w fun e w' => e = .returned (.agg #[.int .i64 p2, .int .i64 q2]) ∧ Below w.heap.size w w')
    (I2 : ∀ w, Calls Try.prog 38 #[.int .i64 p2, .agg #[.int .i64 c2, .int .i64 d2]] w fun e w' => e = .returned (.bool true) ∧ Below w.heap.size w w')
    (J2 : ∀ w, Calls Try.prog 38 #[.int .i64 q2, .agg #[.int .i64 c2, .int .i64 d2]] w fun e w' => e = .returned (.bool true) ∧ Below w.heap.size w w')
    (C2 : ∀ w, Calls Try.prog 40 #[(.agg #[.int .i64 a1, .int .i64 a2]), (.agg #[.int .i64 b1, .int .i64 b2]), .int .i64 2] w fun e w' => e = .returned (.agg #[.int .i64 c2, .int .i64 d2]) ∧ Below w.heap.size w w')
    (O3 : ∀ w, Calls Try.prog 18 #[(.agg #[.int .i64 a1, .int .i64 a2]), (.agg #[.int .i64 b1, .int .i64 b2])] w fun e w' => e = .returned (.tuple #[.agg #[.int .i64 c3, .int .i64 d3], .int .i64 e3]) ∧ Below w.heap.size w w')
    (V3 : z = false → ∀ w, Calls Try.prog 39 #[.int .i64 x, .int .i64 y, .int .i64 3] w fun e w' => e = .returned (.agg #[.int .i64 p3, .int .i64 q3]) ∧ Below w.heap.size w w')
    (I3 : z = false → ∀ w, Calls Try.prog 38 #[.int .i64 p3, .agg #[.int .i64 c3, .int .i64 d3]] w fun e w' => e = .returned (.bool true) ∧ Below w.heap.size w w')
    (J3 : z = false → ∀ w, Calls Try.prog 38 #[.int .i64 q3, .agg #[.int .i64 c3, .int .i64 d3]] w fun e w' => e = .returned (.bool true) ∧ Below w.heap.size w w')
    (C3 : z = false → ∀ w, Calls Try.prog 40 #[(.agg #[.int .i64 a1, .int .i64 a2]), (.agg #[.int .i64 b1, .int .i64 b2]), .int .i64 3] w fun e w' => e = .returned (.agg #[.int .i64 c3, .int .i64 d3]) ∧ Below w.heap.size w w')
    : Calls Try.prog 7 #[.agg #[.int .i32 l0, .int .i32 l1, .int .i32 m0, .int .i32 m1, .int .u32 u, .int .u32 v]] w fun e w' => e = .returned (.bool true) ∧ Below w.heap.size w w' := by
  have HA := Lib.hid HA
  have HB := Lib.hid HB
  have HZ := Lib.hid HZ
  have HZ3 := Lib.hid hz
  have HZ3' := Lib.hid hz'
  clear hz hz'
  have O0 := Lib.hid O0
  have V0 := Lib.hid V0
  have I0 := Lib.hid I0
  have J0 := Lib.hid J0
  have C0 := Lib.hid C0
  have O1 := Lib.hid O1
  have V1 := Lib.hid V1
  have I1 := Lib.hid I1
  have J1 := Lib.hid J1
  have C1 := Lib.hid C1
  have O2 := Lib.hid O2
  have V2 := Lib.hid V2
  have I2 := Lib.hid I2
  have J2 := Lib.hid J2
  have C2 := Lib.hid C2
  have O3 := Lib.hid O3
  have V3 := Lib.hid V3
  have I3 := Lib.hid I3
  have J3 := Lib.hid J3
  have C3 := Lib.hid C3
  go_enter Try.func7, Try.ntmps7
  have x2 : (w.alloc (.cells #[.int .i32 l0, .int .i32 l1, .int .i32 m0, .int .i32 m1, .int .u32 u, .int .u32 v] 41)).cell? ⟨w.heap.size, 2, none⟩ = some (.int .i32 m0) := by simp
  have x3 : (w.alloc (.cells #[.int .i32 l0, .int .i32 l1, .int .i32 m0, .int .i32 m1, .int .u32 u, .int .u32 v] 41)).cell? ⟨w.heap.size, 3, none⟩ = some (.int .i32 m1) := by simp
  have x5 : (w.alloc (.cells #[.int .i32 l0, .int .i32 l1, .int .i32 m0, .int .i32 m1, .int .u32 u, .int .u32 v] 41)).cell? ⟨w.heap.size, 5, none⟩ = some (.int .u32 v) := by simp
  have HB0 := Lib.hid (below_alloc w (.cells #[.int .i32 l0, .int .i32 l1, .int .i32 m0, .int .i32 m1, .int .u32 u, .int .u32 v] 41))
  have X2 := Lib.hid x2
  have X3 := Lib.hid x3
  have X5 := Lib.hid x5
  clear x2 x3 x5
  go_wp2_with fail
  refine (HA.out _).mono ?_
  rintro e w1 ⟨he, hb⟩
  subst he
  have x2 := cell_later (below_alloc w1 (.cells #[.int .i64 a1, .int .i64 a2] 23)) (cell_later hb X2.out)
  have x3 := cell_later (below_alloc w1 (.cells #[.int .i64 a1, .int .i64 a2] 23)) (cell_later hb X3.out)
  have x5 := cell_later (below_alloc w1 (.cells #[.int .i64 a1, .int .i64 a2] 23)) (cell_later hb X5.out)
  have K0 := (Km.of (Below.after HB0.out hb)).alloc (.cells #[.int .i64 a1, .int .i64 a2] 23)
  obtain ⟨w2, hw2⟩ : ∃ u, w1.alloc (.cells #[.int .i64 a1, .int .i64 a2] 23) = u := ⟨_, rfl⟩
  obtain ⟨ga, hga⟩ : ∃ n, w1.heap.size = n := ⟨_, rfl⟩
  have k1 := Cell2.new w1 (.int .i64 a1) (.int .i64 a2) 23
  rw [hw2, hga] at k1
  rw [hw2] at x2 x3 x5 K0
  have K1 := Lib.hid (K0.more k1)
  clear k1 K0 hb X2 X3 X5 HB0 HA
  go_wp2_with fail
  clear x2 x3 x5 hw2 hga
  refine (HB.out _).mono ?_
  rintro e w3 ⟨he, hb⟩
  subst he
  have K2 := (K1.out.later hb).alloc (.cells #[.int .i64 b1, .int .i64 b2] 23)
  obtain ⟨w4, hw4⟩ : ∃ u, w3.alloc (.cells #[.int .i64 b1, .int .i64 b2] 23) = u := ⟨_, rfl⟩
  obtain ⟨gb, hgb⟩ : ∃ n, w3.heap.size = n := ⟨_, rfl⟩
  have k2 := Cell2.new w3 (.int .i64 b1) (.int .i64 b2) 23
  rw [hw4, hgb] at k2
  rw [hw4] at K2
  have K3 := Lib.hid (K2.more k2)
  clear k2 K2 hb K1 HB
  go_wp2_with fail
  clear hw4 hgb
  go_loopw [7] (fun i wr => ∃ k : Nat, k ≤ 4 ∧ i = .int .i64 (k : Int) ∧ Km w [(gb, .int .i64 b1, .int .i64 b2), (ga, .int .i64 a1, .int .i64 a2)] wr) (fun i _ => 4 - (intOf i).toNat)
  case atStart => exact ⟨0, by omega, rfl, K3.out⟩
  case round =>
    clear K3
    obtain ⟨k, hk, rfl, hK⟩ := hrel
    have HK := Lib.hid hK
    clear hK
    have hkk : k = 0 ∨ k = 1 ∨ k = 2 ∨ k = 3 ∨ k = 4 := by omega
    rcases hkk with rfl | rfl | rfl | rfl | rfl
    · have K0 := HK.out.alloc (.cells #[.int .i64 0, .int .i64 0] 23)
      have k5 := Cell2.new wr (.int .i64 0) (.int .i64 0) 23
      have na : ga ≠ wr.heap.size := Nat.ne_of_lt HK.out.k1.lt
      have nb : gb ≠ wr.heap.size := Nat.ne_of_lt HK.out.k0.lt
      have nw : w.heap.size ≤ wr.heap.size := HK.out.bl.size
      have NA := Lib.hid na
      have NB := Lib.hid nb
      have NW := Lib.hid nw
      have ca0 := K0.k1.c0
      have ca1 := K0.k1.c1
      have cb0 := K0.k0.c0
      have cb1 := K0.k0.c1
      have HK5 := Lib.hid K0
      have N5 := Lib.hid k5
      clear K0 k5 na nb nw HK
      go_wp2_with fail
      clear ca0 ca1 cb0 cb1
      refine (O0.out _).mono ?_
      rintro e w6 ⟨he, hb⟩
      subst he
      generalize wr.alloc (.cells #[.int .i64 0, .int .i64 0] 23) = w5 at *
      generalize wr.heap.size = gc at *
      have n6 := N5.out.later hb
      have K6 := HK5.out.later hb
      have k60 := n6.c0
      have k61 := n6.c1
      have f60 := n6.f0
      have f61 := n6.f1
      have n7 := n6.set (.int .i64 c0) (.int .i64 d0)
      have K7 : Km w [(gb, .int .i64 b1, .int .i64 b2), (ga, .int .i64 a1, .int .i64 a2)] ((w6.setCell ⟨gc, 0, none⟩ (.int .i64 c0)).setCell ⟨gc, 1, none⟩ (.int .i64 d0)) :=
        ⟨fun t ht => by
          simp at ht
          rcases ht with rfl | rfl
          · exact (K6.k0.setOther NB.out 0 _).setOther NB.out 1 _
          · exact (K6.k1.setOther NA.out 0 _).setOther NA.out 1 _, (K6.bl.setCell (p := ⟨gc, 0, none⟩) NW.out _).setCell (p := ⟨gc, 1, none⟩) NW.out _⟩
      obtain ⟨w7, hw7⟩ : ∃ u, (w6.setCell ⟨gc, 0, none⟩ (.int .i64 c0)).setCell ⟨gc, 1, none⟩ (.int .i64 d0) = u := ⟨_, rfl⟩
      rw [hw7] at n7 K7
      have K8 := Lib.hid (K7.more n7)
      clear n7 K7 n6 K6 N5 HK5 NA NB NW
      go_wp2_with fail
      clear k60 k61 f60 f61 hw7 hb
      refine (V0.out _).mono ?_
      rintro e w9 ⟨he, hb⟩
      subst he
      have K9 := (K8.out.later hb).alloc (.cells #[.int .i64 p0, .int .i64 q0] 23)
      obtain ⟨w10, hw10⟩ : ∃ u, w9.alloc (.cells #[.int .i64 p0, .int .i64 q0] 23) = u := ⟨_, rfl⟩
      obtain ⟨gn, hgn⟩ : ∃ n, w9.heap.size = n := ⟨_, rfl⟩
      have k9 := Cell2.new w9 (.int .i64 p0) (.int .i64 q0) 23
      rw [hw10, hgn] at k9
      rw [hw10] at K9
      have K10 := Lib.hid (K9.more k9)
      clear k9 K9 hb K8
      go_wp2_with fail
      clear hw10 hgn
      refine E_start (S := fun u => Km w [(gn, .int .i64 p0, .int .i64 q0), (gc, .int .i64 c0, .int .i64 d0), (gb, .int .i64 b1, .int .i64 b2), (ga, .int .i64 a1, .int .i64 a2)] u) (by kernel_rfl) K10.out.drew ?_
      clear K10
      refine call_take (i := 0) (v := (.int .i64 0)) rfl (by kernel_rfl) (by kernel_rfl) (by kernel_rfl) (fun _ _ _ h => h) ⟨by kernel_rfl, .inr (fun w' _ => by go_simp)⟩ ?_
      simp only [Act.put, List.getElem_toArray, List.getElem_cons_succ, List.getElem_cons_zero, List.setIfInBounds_toArray, List.set_cons_zero, List.set_cons_succ]
      refine call_take (i := 1) (v := (.bool false)) rfl (by kernel_rfl) (by kernel_rfl) (by kernel_rfl) (fun _ _ _ h => h) ⟨by kernel_rfl, .inr (fun w' _ => by go_simp)⟩ ?_
      simp only [Act.put, List.getElem_toArray, List.getElem_cons_succ, List.getElem_cons_zero, List.setIfInBounds_toArray, List.set_cons_zero, List.set_cons_succ]
      refine call_take (i := 2) (v := (.bool false)) rfl (by kernel_rfl) (by kernel_rfl) (by kernel_rfl) (fun _ _ _ h => h) ⟨by kernel_rfl, .inr (fun w' _ => by go_simp)⟩ ?_
      simp only [Act.put, List.getElem_toArray, List.getElem_cons_succ, List.getElem_cons_zero, List.setIfInBounds_toArray, List.set_cons_zero, List.set_cons_succ]
      refine call_take (i := 3) (v := (.pointer (some ⟨gn, 0, none⟩))) rfl (by kernel_rfl) (by kernel_rfl) (by kernel_rfl) (fun _ _ _ h => h) ⟨by kernel_rfl, .inr (fun w' _ => by go_simp)⟩ ?_
      simp only [Act.put, List.getElem_toArray, List.getElem_cons_succ, List.getElem_cons_zero, List.setIfInBounds_toArray, List.set_cons_zero, List.set_cons_succ]
      refine call_take (i := 4) (v := (.int .i64 p0)) rfl (by kernel_rfl) (by kernel_rfl) (by kernel_rfl) (fun _ _ _ h => h) ⟨by kernel_rfl, .inr (fun w' hSw => by have hk := (show Km w [(gn, .int .i64 p0, .int .i64 q0), (gc, .int .i64 c0, .int .i64 d0), (gb, .int .i64 b1, .int .i64 b2), (ga, .int .i64 a1, .int .i64 a2)] w' from hSw).k0; have q0 := hk.c0; have q1 := hk.c1; clear hSw hk; go_simp)⟩ ?_
      simp only [Act.put, List.getElem_toArray, List.getElem_cons_succ, List.getElem_cons_zero, List.setIfInBounds_toArray, List.set_cons_zero, List.set_cons_succ]
      refine call_take (i := 5) (v := (.agg #[.int .i64 c0, .int .i64 d0])) rfl (by kernel_rfl) (by kernel_rfl) (by kernel_rfl) (fun _ _ _ h => h) ⟨by kernel_rfl, .inr (fun w' hSw => by have hk := (show Km w [(gn, .int .i64 p0, .int .i64 q0), (gc, .int .i64 c0, .int .i64 d0), (gb, .int .i64 b1, .int .i64 b2), (ga, .int .i64 a1, .int .i64 a2)] w' from hSw).k1; have q0 := hk.c0; have q1 := hk.c1; clear hSw hk; go_simp)⟩ ?_
      simp only [Act.put, List.getElem_toArray, List.getElem_cons_succ, List.getElem_cons_zero, List.setIfInBounds_toArray, List.set_cons_zero, List.set_cons_succ]
      refine call_take (i := 6) (v := (.bool true)) rfl (by kernel_rfl) (by kernel_rfl) (by kernel_rfl) (fun _ _ _ h => h) ⟨by kernel_rfl, .inl ⟨38, #[.int .i64 p0, .agg #[.int .i64 c0, .int .i64 d0]], fun w' => by go_simp, fun w' hw => (I0.out w').mono fun e u ⟨h1, h2⟩ => ⟨h1, h2, Km.later hw h2⟩⟩⟩ ?_
      simp only [Act.put, List.getElem_toArray, List.getElem_cons_succ, List.getElem_cons_zero, List.setIfInBounds_toArray, List.set_cons_zero, List.set_cons_succ]
      refine call_take (i := 7) (v := (.bool false)) rfl (by kernel_rfl) (by kernel_rfl) (by kernel_rfl) (fun _ _ _ h => h) ⟨by kernel_rfl, .inr (fun w' _ => by go_simp)⟩ ?_
      simp only [Act.put, List.getElem_toArray, List.getElem_cons_succ, List.getElem_cons_zero, List.setIfInBounds_toArray, List.set_cons_zero, List.set_cons_succ]
      refine call_take (i := 8) (v := (.bool false)) rfl (by kernel_rfl) (by kernel_rfl) (by kernel_rfl) (fun _ _ _ h => h) ⟨by kernel_rfl, .inr (fun w' _ => by go_simp)⟩ ?_
      simp only [Act.put, List.getElem_toArray, List.getElem_cons_succ, List.getElem_cons_zero, List.setIfInBounds_toArray, List.set_cons_zero, List.set_cons_succ]
      refine call_take (i := 9) (v := (.bool false)) rfl (by kernel_rfl) (by kernel_rfl) (by kernel_rfl) (fun _ _ _ h => h) ⟨by kernel_rfl, .inr (fun w' _ => by go_simp)⟩ ?_
      simp only [Act.put, List.getElem_toArray, List.getElem_cons_succ, List.getElem_cons_zero, List.setIfInBounds_toArray, List.set_cons_zero, List.set_cons_succ]
      refine call_take (i := 10) (v := (.pointer (some ⟨gn, 1, none⟩))) rfl (by kernel_rfl) (by kernel_rfl) (by kernel_rfl) (fun _ _ _ h => h) ⟨by kernel_rfl, .inr (fun w' _ => by go_simp)⟩ ?_
      simp only [Act.put, List.getElem_toArray, List.getElem_cons_succ, List.getElem_cons_zero, List.setIfInBounds_toArray, List.set_cons_zero, List.set_cons_succ]
      refine call_take (i := 11) (v := (.int .i64 q0)) rfl (by kernel_rfl) (by kernel_rfl) (by kernel_rfl) (fun _ _ _ h => h) ⟨by kernel_rfl, .inr (fun w' hSw => by have hk := (show Km w [(gn, .int .i64 p0, .int .i64 q0), (gc, .int .i64 c0, .int .i64 d0), (gb, .int .i64 b1, .int .i64 b2), (ga, .int .i64 a1, .int .i64 a2)] w' from hSw).k0; have q0 := hk.c0; have q1 := hk.c1; clear hSw hk; go_simp)⟩ ?_
      simp only [Act.put, List.getElem_toArray, List.getElem_cons_succ, List.getElem_cons_zero, List.setIfInBounds_toArray, List.set_cons_zero, List.set_cons_succ]
      refine call_take (i := 12) (v := (.agg #[.int .i64 c0, .int .i64 d0])) rfl (by kernel_rfl) (by kernel_rfl) (by kernel_rfl) (fun _ _ _ h => h) ⟨by kernel_rfl, .inr (fun w' hSw => by have hk := (show Km w [(gn, .int .i64 p0, .int .i64 q0), (gc, .int .i64 c0, .int .i64 d0), (gb, .int .i64 b1, .int .i64 b2), (ga, .int .i64 a1, .int .i64 a2)] w' from hSw).k1; have q0 := hk.c0; have q1 := hk.c1; clear hSw hk; go_simp)⟩ ?_
      simp only [Act.put, List.getElem_toArray, List.getElem_cons_succ, List.getElem_cons_zero, List.setIfInBounds_toArray, List.set_cons_zero, List.set_cons_succ]
      refine call_take (i := 13) (v := (.bool true)) rfl (by kernel_rfl) (by kernel_rfl) (by kernel_rfl) (fun _ _ _ h => h) ⟨by kernel_rfl, .inl ⟨38, #[.int .i64 q0, .agg #[.int .i64 c0, .int .i64 d0]], fun w' => by go_simp, fun w' hw => (J0.out w').mono fun e u ⟨h1, h2⟩ => ⟨h1, h2, Km.later hw h2⟩⟩⟩ ?_
      simp only [Act.put, List.getElem_toArray, List.getElem_cons_succ, List.getElem_cons_zero, List.setIfInBounds_toArray, List.set_cons_zero, List.set_cons_succ]
      refine call_take (i := 14) (v := (.bool false)) rfl (by kernel_rfl) (by kernel_rfl) (by kernel_rfl) (fun _ _ _ h => h) ⟨by kernel_rfl, .inr (fun w' _ => by go_simp)⟩ ?_
      simp only [Act.put, List.getElem_toArray, List.getElem_cons_succ, List.getElem_cons_zero, List.setIfInBounds_toArray, List.set_cons_zero, List.set_cons_succ]
      refine call_take (i := 15) (v := (.bool false)) rfl (by kernel_rfl) (by kernel_rfl) (by kernel_rfl) (fun _ _ _ h => h) ⟨by kernel_rfl, .inr (fun w' _ => by go_simp)⟩ ?_
      simp only [Act.put, List.getElem_toArray, List.getElem_cons_succ, List.getElem_cons_zero, List.setIfInBounds_toArray, List.set_cons_zero, List.set_cons_succ]
      refine call_take (i := 16) (v := (.bool false)) rfl (by kernel_rfl) (by kernel_rfl) (by kernel_rfl) (fun _ _ _ h => h) ⟨by kernel_rfl, .inr (fun w' _ => by go_simp)⟩ ?_
      simp only [Act.put, List.getElem_toArray, List.getElem_cons_succ, List.getElem_cons_zero, List.setIfInBounds_toArray, List.set_cons_zero, List.set_cons_succ]
      refine call_take (i := 17) (v := (.agg #[.int .i64 c0, .int .i64 d0])) rfl (by kernel_rfl) (by kernel_rfl) (by kernel_rfl) (fun _ _ _ h => h) ⟨by kernel_rfl, .inr (fun w' hSw => by have hk := (show Km w [(gn, .int .i64 p0, .int .i64 q0), (gc, .int .i64 c0, .int .i64 d0), (gb, .int .i64 b1, .int .i64 b2), (ga, .int .i64 a1, .int .i64 a2)] w' from hSw).k1; have q0 := hk.c0; have q1 := hk.c1; clear hSw hk; go_simp)⟩ ?_
      simp only [Act.put, List.getElem_toArray, List.getElem_cons_succ, List.getElem_cons_zero, List.setIfInBounds_toArray, List.set_cons_zero, List.set_cons_succ]
      refine call_take (i := 18) (v := (.agg #[.int .i64 a1, .int .i64 a2])) rfl (by kernel_rfl) (by kernel_rfl) (by kernel_rfl) (fun _ _ _ h => h) ⟨by kernel_rfl, .inr (fun w' hSw => by have hk := (show Km w [(gn, .int .i64 p0, .int .i64 q0), (gc, .int .i64 c0, .int .i64 d0), (gb, .int .i64 b1, .int .i64 b2), (ga, .int .i64 a1, .int .i64 a2)] w' from hSw).k3; have q0 := hk.c0; have q1 := hk.c1; clear hSw hk; go_simp)⟩ ?_
      simp only [Act.put, List.getElem_toArray, List.getElem_cons_succ, List.getElem_cons_zero, List.setIfInBounds_toArray, List.set_cons_zero, List.set_cons_succ]
      refine call_take (i := 19) (v := (.agg #[.int .i64 b1, .int .i64 b2])) rfl (by kernel_rfl) (by kernel_rfl) (by kernel_rfl) (fun _ _ _ h => h) ⟨by kernel_rfl, .inr (fun w' hSw => by have hk := (show Km w [(gn, .int .i64 p0, .int .i64 q0), (gc, .int .i64 c0, .int .i64 d0), (gb, .int .i64 b1, .int .i64 b2), (ga, .int .i64 a1, .int .i64 a2)] w' from hSw).k2; have q0 := hk.c0; have q1 := hk.c1; clear hSw hk; go_simp)⟩ ?_
      simp only [Act.put, List.getElem_toArray, List.getElem_cons_succ, List.getElem_cons_zero, List.setIfInBounds_toArray, List.set_cons_zero, List.set_cons_succ]
      refine call_take (i := 20) (v := (.int .i64 0)) rfl (by kernel_rfl) (by kernel_rfl) (by kernel_rfl) (fun _ _ _ h => h) ⟨by kernel_rfl, .inr (fun w' _ => by go_simp)⟩ ?_
      simp only [Act.put, List.getElem_toArray, List.getElem_cons_succ, List.getElem_cons_zero, List.setIfInBounds_toArray, List.set_cons_zero, List.set_cons_succ]
      refine call_take (i := 21) (v := (.agg #[.int .i64 c0, .int .i64 d0])) rfl (by kernel_rfl) (by kernel_rfl) (by kernel_rfl) (fun _ _ _ h => h) ⟨by kernel_rfl, .inl ⟨40, #[.agg #[.int .i64 a1, .int .i64 a2], .agg #[.int .i64 b1, .int .i64 b2], .int .i64 0], fun w' => by go_simp, fun w' hw => (C0.out w').mono fun e u ⟨h1, h2⟩ => ⟨h1, h2, Km.later hw h2⟩⟩⟩ ?_
      simp only [Act.put, List.getElem_toArray, List.getElem_cons_succ, List.getElem_cons_zero, List.setIfInBounds_toArray, List.set_cons_zero, List.set_cons_succ]
      refine call_take (i := 22) (v := (.bool false)) rfl (by kernel_rfl) (by kernel_rfl) (by kernel_rfl) (fun _ _ _ h => h) ⟨by kernel_rfl, .inr (fun w' _ => by go_simp)⟩ ?_
      simp only [Act.put, List.getElem_toArray, List.getElem_cons_succ, List.getElem_cons_zero, List.setIfInBounds_toArray, List.set_cons_zero, List.set_cons_succ]
      refine call_take (i := 23) (v := (.bool false)) rfl (by kernel_rfl) (by kernel_rfl) (by kernel_rfl) (fun _ _ _ h => h) ⟨by kernel_rfl, .inr (fun w' _ => by go_simp)⟩ ?_
      simp only [Act.put, List.getElem_toArray, List.getElem_cons_succ, List.getElem_cons_zero, List.setIfInBounds_toArray, List.set_cons_zero, List.set_cons_succ]
      refine E_done (by kernel_rfl) (fun u hu => ?_) _
      have HU := Lib.hid (show Km w [(gn, .int .i64 p0, .int .i64 q0), (gc, .int .i64 c0, .int .i64 d0), (gb, .int .i64 b1, .int .i64 b2), (ga, .int .i64 a1, .int .i64 a2)] u from hu.2)
      clear hu
      go_wp2_with fail
      first
        | exact ⟨⟨1, by omega, rfl, ⟨fun t ht => HU.out.keep t (List.mem_cons_of_mem _ (List.mem_cons_of_mem _ ht)), HU.out.bl⟩⟩, by simp [intOf]⟩
        | (go_roundw
           case rel => exact ⟨1, by omega, rfl, ⟨fun t ht => HU.out.keep t (List.mem_cons_of_mem _ (List.mem_cons_of_mem _ ht)), HU.out.bl⟩⟩
           case measure => simp [intOf])
    · have K0 := HK.out.alloc (.cells #[.int .i64 0, .int .i64 0] 23)
      have k5 := Cell2.new wr (.int .i64 0) (.int .i64 0) 23
      have na : ga ≠ wr.heap.size := Nat.ne_of_lt HK.out.k1.lt
      have nb : gb ≠ wr.heap.size := Nat.ne_of_lt HK.out.k0.lt
      have nw : w.heap.size ≤ wr.heap.size := HK.out.bl.size
      have NA := Lib.hid na
      have NB := Lib.hid nb
      have NW := Lib.hid nw
      have ca0 := K0.k1.c0
      have ca1 := K0.k1.c1
      have cb0 := K0.k0.c0
      have cb1 := K0.k0.c1
      have HK5 := Lib.hid K0
      have N5 := Lib.hid k5
      clear K0 k5 na nb nw HK
      go_wp2_with fail
      clear ca0 ca1 cb0 cb1
      refine (O1.out _).mono ?_
      rintro e w6 ⟨he, hb⟩
      subst he
      generalize wr.alloc (.cells #[.int .i64 0, .int .i64 0] 23) = w5 at *
      generalize wr.heap.size = gc at *
      have n6 := N5.out.later hb
      have K6 := HK5.out.later hb
      have k60 := n6.c0
      have k61 := n6.c1
      have f60 := n6.f0
      have f61 := n6.f1
      have n7 := n6.set (.int .i64 c1) (.int .i64 d1)
      have K7 : Km w [(gb, .int .i64 b1, .int .i64 b2), (ga, .int .i64 a1, .int .i64 a2)] ((w6.setCell ⟨gc, 0, none⟩ (.int .i64 c1)).setCell ⟨gc, 1, none⟩ (.int .i64 d1)) :=
        ⟨fun t ht => by
          simp at ht
          rcases ht with rfl | rfl
          · exact (K6.k0.setOther NB.out 0 _).setOther NB.out 1 _
          · exact (K6.k1.setOther NA.out 0 _).setOther NA.out 1 _, (K6.bl.setCell (p := ⟨gc, 0, none⟩) NW.out _).setCell (p := ⟨gc, 1, none⟩) NW.out _⟩
      obtain ⟨w7, hw7⟩ : ∃ u, (w6.setCell ⟨gc, 0, none⟩ (.int .i64 c1)).setCell ⟨gc, 1, none⟩ (.int .i64 d1) = u := ⟨_, rfl⟩
      rw [hw7] at n7 K7
      have K8 := Lib.hid (K7.more n7)
      clear n7 K7 n6 K6 N5 HK5 NA NB NW
      go_wp2_with fail
      clear k60 k61 f60 f61 hw7 hb
      refine (V1.out _).mono ?_
      rintro e w9 ⟨he, hb⟩
      subst he
      have K9 := (K8.out.later hb).alloc (.cells #[.int .i64 p1, .int .i64 q1] 23)
      obtain ⟨w10, hw10⟩ : ∃ u, w9.alloc (.cells #[.int .i64 p1, .int .i64 q1] 23) = u := ⟨_, rfl⟩
      obtain ⟨gn, hgn⟩ : ∃ n, w9.heap.size = n := ⟨_, rfl⟩
      have k9 := Cell2.new w9 (.int .i64 p1) (.int .i64 q1) 23
      rw [hw10, hgn] at k9
      rw [hw10] at K9
      have K10 := Lib.hid (K9.more k9)
      clear k9 K9 hb K8
      go_wp2_with fail
      clear hw10 hgn
      refine E_start (S := fun u => Km w [(gn, .int .i64 p1, .int .i64 q1), (gc, .int .i64 c1, .int .i64 d1), (gb, .int .i64 b1, .int .i64 b2), (ga, .int .i64 a1, .int .i64 a2)] u) (by kernel_rfl) K10.out.drew ?_
      clear K10
      refine call_take (i := 0) (v := (.int .i64 0)) rfl (by kernel_rfl) (by kernel_rfl) (by kernel_rfl) (fun _ _ _ h => h) ⟨by kernel_rfl, .inr (fun w' _ => by go_simp)⟩ ?_
      simp only [Act.put, List.getElem_toArray, List.getElem_cons_succ, List.getElem_cons_zero, List.setIfInBounds_toArray, List.set_cons_zero, List.set_cons_succ]
      refine call_take (i := 1) (v := (.bool false)) rfl (by kernel_rfl) (by kernel_rfl) (by kernel_rfl) (fun _ _ _ h => h) ⟨by kernel_rfl, .inr (fun w' _ => by go_simp)⟩ ?_
      simp only [Act.put, List.getElem_toArray, List.getElem_cons_succ, List.getElem_cons_zero, List.setIfInBounds_toArray, List.set_cons_zero, List.set_cons_succ]
      refine call_take (i := 2) (v := (.bool false)) rfl (by kernel_rfl) (by kernel_rfl) (by kernel_rfl) (fun _ _ _ h => h) ⟨by kernel_rfl, .inr (fun w' _ => by go_simp)⟩ ?_
      simp only [Act.put, List.getElem_toArray, List.getElem_cons_succ, List.getElem_cons_zero, List.setIfInBounds_toArray, List.set_cons_zero, List.set_cons_succ]
      refine call_take (i := 3) (v := (.pointer (some ⟨gn, 0, none⟩))) rfl (by kernel_rfl) (by kernel_rfl) (by kernel_rfl) (fun _ _ _ h => h) ⟨by kernel_rfl, .inr (fun w' _ => by go_simp)⟩ ?_
      simp only [Act.put, List.getElem_toArray, List.getElem_cons_succ, List.getElem_cons_zero, List.setIfInBounds_toArray, List.set_cons_zero, List.set_cons_succ]
      refine call_take (i := 4) (v := (.int .i64 p1)) rfl (by kernel_rfl) (by kernel_rfl) (by kernel_rfl) (fun _ _ _ h => h) ⟨by kernel_rfl, .inr (fun w' hSw => by have hk := (show Km w [(gn, .int .i64 p1, .int .i64 q1), (gc, .int .i64 c1, .int .i64 d1), (gb, .int .i64 b1, .int .i64 b2), (ga, .int .i64 a1, .int .i64 a2)] w' from hSw).k0; have q0 := hk.c0; have q1 := hk.c1; clear hSw hk; go_simp)⟩ ?_
      simp only [Act.put, List.getElem_toArray, List.getElem_cons_succ, List.getElem_cons_zero, List.setIfInBounds_toArray, List.set_cons_zero, List.set_cons_succ]
      refine call_take (i := 5) (v := (.agg #[.int .i64 c1, .int .i64 d1])) rfl (by kernel_rfl) (by kernel_rfl) (by kernel_rfl) (fun _ _ _ h => h) ⟨by kernel_rfl, .inr (fun w' hSw => by have hk := (show Km w [(gn, .int .i64 p1, .int .i64 q1), (gc, .int .i64 c1, .int .i64 d1), (gb, .int .i64 b1, .int .i64 b2), (ga, .int .i64 a1, .int .i64 a2)] w' from hSw).k1; have q0 := hk.c0; have q1 := hk.c1; clear hSw hk; go_simp)⟩ ?_
      simp only [Act.put, List.getElem_toArray, List.getElem_cons_succ, List.getElem_cons_zero, List.setIfInBounds_toArray, List.set_cons_zero, List.set_cons_succ]
      refine call_take (i := 6) (v := (.bool true)) rfl (by kernel_rfl) (by kernel_rfl) (by kernel_rfl) (fun _ _ _ h => h) ⟨by kernel_rfl, .inl ⟨38, #[.int .i64 p1, .agg #[.int .i64 c1, .int .i64 d1]], fun w' => by go_simp, fun w' hw => (I1.out w').mono fun e u ⟨h1, h2⟩ => ⟨h1, h2, Km.later hw h2⟩⟩⟩ ?_
      simp only [Act.put, List.getElem_toArray, List.getElem_cons_succ, List.getElem_cons_zero, List.setIfInBounds_toArray, List.set_cons_zero, List.set_cons_succ]
      refine call_take (i := 7) (v := (.bool false)) rfl (by kernel_rfl) (by kernel_rfl) (by kernel_rfl) (fun _ _ _ h => h) ⟨by kernel_rfl, .inr (fun w' _ => by go_simp)⟩ ?_
      simp only [Act.put, List.getElem_toArray, List.getElem_cons_succ, List.getElem_cons_zero, List.setIfInBounds_toArray, List.set_cons_zero, List.set_cons_succ]
      refine call_take (i := 8) (v := (.bool false)) rfl (by kernel_rfl) (by kernel_rfl) (by kernel_rfl) (fun _ _ _ h => h) ⟨by kernel_rfl, .inr (fun w' _ => by go_simp)⟩ ?_
      simp only [Act.put, List.getElem_toArray, List.getElem_cons_succ, List.getElem_cons_zero, List.setIfInBounds_toArray, List.set_cons_zero, List.set_cons_succ]
      refine call_take (i := 9) (v := (.bool false)) rfl (by kernel_rfl) (by kernel_rfl) (by kernel_rfl) (fun _ _ _ h => h) ⟨by kernel_rfl, .inr (fun w' _ => by go_simp)⟩ ?_
      simp only [Act.put, List.getElem_toArray, List.getElem_cons_succ, List.getElem_cons_zero, List.setIfInBounds_toArray, List.set_cons_zero, List.set_cons_succ]
      refine call_take (i := 10) (v := (.pointer (some ⟨gn, 1, none⟩))) rfl (by kernel_rfl) (by kernel_rfl) (by kernel_rfl) (fun _ _ _ h => h) ⟨by kernel_rfl, .inr (fun w' _ => by go_simp)⟩ ?_
      simp only [Act.put, List.getElem_toArray, List.getElem_cons_succ, List.getElem_cons_zero, List.setIfInBounds_toArray, List.set_cons_zero, List.set_cons_succ]
      refine call_take (i := 11) (v := (.int .i64 q1)) rfl (by kernel_rfl) (by kernel_rfl) (by kernel_rfl) (fun _ _ _ h => h) ⟨by kernel_rfl, .inr (fun w' hSw => by have hk := (show Km w [(gn, .int .i64 p1, .int .i64 q1), (gc, .int .i64 c1, .int .i64 d1), (gb, .int .i64 b1, .int .i64 b2), (ga, .int .i64 a1, .int .i64 a2)] w' from hSw).k0; have q0 := hk.c0; have q1 := hk.c1; clear hSw hk; go_simp)⟩ ?_
      simp only [Act.put, List.getElem_toArray, List.getElem_cons_succ, List.getElem_cons_zero, List.setIfInBounds_toArray, List.set_cons_zero, List.set_cons_succ]
      refine call_take (i := 12) (v := (.agg #[.int .i64 c1, .int .i64 d1])) rfl (by kernel_rfl) (by kernel_rfl) (by kernel_rfl) (fun _ _ _ h => h) ⟨by kernel_rfl, .inr (fun w' hSw => by have hk := (show Km w [(gn, .int .i64 p1, .int .i64 q1), (gc, .int .i64 c1, .int .i64 d1), (gb, .int .i64 b1, .int .i64 b2), (ga, .int .i64 a1, .int .i64 a2)] w' from hSw).k1; have q0 := hk.c0; have q1 := hk.c1; clear hSw hk; go_simp)⟩ ?_
      simp only [Act.put, List.getElem_toArray, List.getElem_cons_succ, List.getElem_cons_zero, List.setIfInBounds_toArray, List.set_cons_zero, List.set_cons_succ]
      refine call_take (i := 13) (v := (.bool true)) rfl (by kernel_rfl) (by kernel_rfl) (by kernel_rfl) (fun _ _ _ h => h) ⟨by kernel_rfl, .inl ⟨38, #[.int .i64 q1, .agg #[.int .i64 c1, .int .i64 d1]], fun w' => by go_simp, fun w' hw => (J1.out w').mono fun e u ⟨h1, h2⟩ => ⟨h1, h2, Km.later hw h2⟩⟩⟩ ?_
      simp only [Act.put, List.getElem_toArray, List.getElem_cons_succ, List.getElem_cons_zero, List.setIfInBounds_toArray, List.set_cons_zero, List.set_cons_succ]
      refine call_take (i := 14) (v := (.bool false)) rfl (by kernel_rfl) (by kernel_rfl) (by kernel_rfl) (fun _ _ _ h => h) ⟨by kernel_rfl, .inr (fun w' _ => by go_simp)⟩ ?_
      simp only [Act.put, List.getElem_toArray, List.getElem_cons_succ, List.getElem_cons_zero, List.setIfInBounds_toArray, List.set_cons_zero, List.set_cons_succ]
      refine call_take (i := 15) (v := (.bool false)) rfl (by kernel_rfl) (by kernel_rfl) (by kernel_rfl) (fun _ _ _ h => h) ⟨by kernel_rfl, .inr (fun w' _ => by go_simp)⟩ ?_
      simp only [Act.put, List.getElem_toArray, List.getElem_cons_succ, List.getElem_cons_zero, List.setIfInBounds_toArray, List.set_cons_zero, List.set_cons_succ]
      refine call_take (i := 16) (v := (.bool false)) rfl (by kernel_rfl) (by kernel_rfl) (by kernel_rfl) (fun _ _ _ h => h) ⟨by kernel_rfl, .inr (fun w' _ => by go_simp)⟩ ?_
      simp only [Act.put, List.getElem_toArray, List.getElem_cons_succ, List.getElem_cons_zero, List.setIfInBounds_toArray, List.set_cons_zero, List.set_cons_succ]
      refine call_take (i := 17) (v := (.agg #[.int .i64 c1, .int .i64 d1])) rfl (by kernel_rfl) (by kernel_rfl) (by kernel_rfl) (fun _ _ _ h => h) ⟨by kernel_rfl, .inr (fun w' hSw => by have hk := (show Km w [(gn, .int .i64 p1, .int .i64 q1), (gc, .int .i64 c1, .int .i64 d1), (gb, .int .i64 b1, .int .i64 b2), (ga, .int .i64 a1, .int .i64 a2)] w' from hSw).k1; have q0 := hk.c0; have q1 := hk.c1; clear hSw hk; go_simp)⟩ ?_
      simp only [Act.put, List.getElem_toArray, List.getElem_cons_succ, List.getElem_cons_zero, List.setIfInBounds_toArray, List.set_cons_zero, List.set_cons_succ]
      refine call_take (i := 18) (v := (.agg #[.int .i64 a1, .int .i64 a2])) rfl (by kernel_rfl) (by kernel_rfl) (by kernel_rfl) (fun _ _ _ h => h) ⟨by kernel_rfl, .inr (fun w' hSw => by have hk := (show Km w [(gn, .int .i64 p1, .int .i64 q1), (gc, .int .i64 c1, .int .i64 d1), (gb, .int .i64 b1, .int .i64 b2), (ga, .int .i64 a1, .int .i64 a2)] w' from hSw).k3; have q0 := hk.c0; have q1 := hk.c1; clear hSw hk; go_simp)⟩ ?_
      simp only [Act.put, List.getElem_toArray, List.getElem_cons_succ, List.getElem_cons_zero, List.setIfInBounds_toArray, List.set_cons_zero, List.set_cons_succ]
      refine call_take (i := 19) (v := (.agg #[.int .i64 b1, .int .i64 b2])) rfl (by kernel_rfl) (by kernel_rfl) (by kernel_rfl) (fun _ _ _ h => h) ⟨by kernel_rfl, .inr (fun w' hSw => by have hk := (show Km w [(gn, .int .i64 p1, .int .i64 q1), (gc, .int .i64 c1, .int .i64 d1), (gb, .int .i64 b1, .int .i64 b2), (ga, .int .i64 a1, .int .i64 a2)] w' from hSw).k2; have q0 := hk.c0; have q1 := hk.c1; clear hSw hk; go_simp)⟩ ?_
      simp only [Act.put, List.getElem_toArray, List.getElem_cons_succ, List.getElem_cons_zero, List.setIfInBounds_toArray, List.set_cons_zero, List.set_cons_succ]
      refine call_take (i := 20) (v := (.int .i64 1)) rfl (by kernel_rfl) (by kernel_rfl) (by kernel_rfl) (fun _ _ _ h => h) ⟨by kernel_rfl, .inr (fun w' _ => by go_simp)⟩ ?_
      simp only [Act.put, List.getElem_toArray, List.getElem_cons_succ, List.getElem_cons_zero, List.setIfInBounds_toArray, List.set_cons_zero, List.set_cons_succ]
      refine call_take (i := 21) (v := (.agg #[.int .i64 c1, .int .i64 d1])) rfl (by kernel_rfl) (by kernel_rfl) (by kernel_rfl) (fun _ _ _ h => h) ⟨by kernel_rfl, .inl ⟨40, #[.agg #[.int .i64 a1, .int .i64 a2], .agg #[.int .i64 b1, .int .i64 b2], .int .i64 1], fun w' => by go_simp, fun w' hw => (C1.out w').mono fun e u ⟨h1, h2⟩ => ⟨h1, h2, Km.later hw h2⟩⟩⟩ ?_
      simp only [Act.put, List.getElem_toArray, List.getElem_cons_succ, List.getElem_cons_zero, List.setIfInBounds_toArray, List.set_cons_zero, List.set_cons_succ]
      refine call_take (i := 22) (v := (.bool false)) rfl (by kernel_rfl) (by kernel_rfl) (by kernel_rfl) (fun _ _ _ h => h) ⟨by kernel_rfl, .inr (fun w' _ => by go_simp)⟩ ?_
      simp only [Act.put, List.getElem_toArray, List.getElem_cons_succ, List.getElem_cons_zero, List.setIfInBounds_toArray, List.set_cons_zero, List.set_cons_succ]
      refine call_take (i := 23) (v := (.bool false)) rfl (by kernel_rfl) (by kernel_rfl) (by kernel_rfl) (fun _ _ _ h => h) ⟨by kernel_rfl, .inr (fun w' _ => by go_simp)⟩ ?_
      simp only [Act.put, List.getElem_toArray, List.getElem_cons_succ, List.getElem_cons_zero, List.setIfInBounds_toArray, List.set_cons_zero, List.set_cons_succ]
      refine E_done (by kernel_rfl) (fun u hu => ?_) _
      have HU := Lib.hid (show Km w [(gn, .int .i64 p1, .int .i64 q1), (gc, .int .i64 c1, .int .i64 d1), (gb, .int .i64 b1, .int .i64 b2), (ga, .int .i64 a1, .int .i64 a2)] u from hu.2)
      clear hu
      go_wp2_with fail
      first
        | exact ⟨⟨2, by omega, rfl, ⟨fun t ht => HU.out.keep t (List.mem_cons_of_mem _ (List.mem_cons_of_mem _ ht)), HU.out.bl⟩⟩, by simp [intOf]⟩
        | (go_roundw
           case rel => exact ⟨2, by omega, rfl, ⟨fun t ht => HU.out.keep t (List.mem_cons_of_mem _ (List.mem_cons_of_mem _ ht)), HU.out.bl⟩⟩
           case measure => simp [intOf])
    · have K0 := HK.out.alloc (.cells #[.int .i64 0, .int .i64 0] 23)
      have k5 := Cell2.new wr (.int .i64 0) (.int .i64 0) 23
      have na : ga ≠ wr.heap.size := Nat.ne_of_lt HK.out.k1.lt
      have nb : gb ≠ wr.heap.size := Nat.ne_of_lt HK.out.k0.lt
      have nw : w.heap.size ≤ wr.heap.size := HK.out.bl.size
      have NA := Lib.hid na
      have NB := Lib.hid nb
      have NW := Lib.hid nw
      have ca0 := K0.k1.c0
      have ca1 := K0.k1.c1
      have cb0 := K0.k0.c0
      have cb1 := K0.k0.c1
      have HK5 := Lib.hid K0
      have N5 := Lib.hid k5
      clear K0 k5 na nb nw HK
      go_wp2_with fail
      clear ca0 ca1 cb0 cb1
      refine (O2.out _).mono ?_
      rintro e w6 ⟨he, hb⟩
      subst he
      generalize wr.alloc (.cells #[.int .i64 0, .int .i64 0] 23) = w5 at *
      generalize wr.heap.size = gc at *
      have n6 := N5.out.later hb
      have K6 := HK5.out.later hb
      have k60 := n6.c0
      have k61 := n6.c1
      have f60 := n6.f0
      have f61 := n6.f1
      have n7 := n6.set (.int .i64 c2) (.int .i64 d2)
      have K7 : Km w [(gb, .int .i64 b1, .int .i64 b2), (ga, .int .i64 a1, .int .i64 a2)] ((w6.setCell ⟨gc, 0, none⟩ (.int .i64 c2)).setCell ⟨gc, 1, none⟩ (.int .i64 d2)) :=
        ⟨fun t ht => by
          simp at ht
          rcases ht with rfl | rfl
          · exact (K6.k0.setOther NB.out 0 _).setOther NB.out 1 _
          · exact (K6.k1.setOther NA.out 0 _).setOther NA.out 1 _, (K6.bl.setCell (p := ⟨gc, 0, none⟩) NW.out _).setCell (p := ⟨gc, 1, none⟩) NW.out _⟩
      obtain ⟨w7, hw7⟩ : ∃ u, (w6.setCell ⟨gc, 0, none⟩ (.int .i64 c2)).setCell ⟨gc, 1, none⟩ (.int .i64 d2) = u := ⟨_, rfl⟩
      rw [hw7] at n7 K7
      have K8 := Lib.hid (K7.more n7)
      clear n7 K7 n6 K6 N5 HK5 NA NB NW
      go_wp2_with fail
      clear k60 k61 f60 f61 hw7 hb
      refine (V2.out _).mono ?_
      rintro e w9 ⟨he, hb⟩
      subst he
      have K9 := (K8.out.later hb).alloc (.cells #[.int .i64 p2, .int .i64 q2] 23)
      obtain ⟨w10, hw10⟩ : ∃ u, w9.alloc (.cells #[.int .i64 p2, .int .i64 q2] 23) = u := ⟨_, rfl⟩
      obtain ⟨gn, hgn⟩ : ∃ n, w9.heap.size = n := ⟨_, rfl⟩
      have k9 := Cell2.new w9 (.int .i64 p2) (.int .i64 q2) 23
      rw [hw10, hgn] at k9
      rw [hw10] at K9
      have K10 := Lib.hid (K9.more k9)
      clear k9 K9 hb K8
      go_wp2_with fail
      clear hw10 hgn
      refine E_start (S := fun u => Km w [(gn, .int .i64 p2, .int .i64 q2), (gc, .int .i64 c2, .int .i64 d2), (gb, .int .i64 b1, .int .i64 b2), (ga, .int .i64 a1, .int .i64 a2)] u) (by kernel_rfl) K10.out.drew ?_
      clear K10
      refine call_take (i := 0) (v := (.int .i64 0)) rfl (by kernel_rfl) (by kernel_rfl) (by kernel_rfl) (fun _ _ _ h => h) ⟨by kernel_rfl, .inr (fun w' _ => by go_simp)⟩ ?_
      simp only [Act.put, List.getElem_toArray, List.getElem_cons_succ, List.getElem_cons_zero, List.setIfInBounds_toArray, List.set_cons_zero, List.set_cons_succ]
      refine call_take (i := 1) (v := (.bool false)) rfl (by kernel_rfl) (by kernel_rfl) (by kernel_rfl) (fun _ _ _ h => h) ⟨by kernel_rfl, .inr (fun w' _ => by go_simp)⟩ ?_
      simp only [Act.put, List.getElem_toArray, List.getElem_cons_succ, List.getElem_cons_zero, List.setIfInBounds_toArray, List.set_cons_zero, List.set_cons_succ]
      refine call_take (i := 2) (v := (.bool false)) rfl (by kernel_rfl) (by kernel_rfl) (by kernel_rfl) (fun _ _ _ h => h) ⟨by kernel_rfl, .inr (fun w' _ => by go_simp)⟩ ?_
      simp only [Act.put, List.getElem_toArray, List.getElem_cons_succ, List.getElem_cons_zero, List.setIfInBounds_toArray, List.set_cons_zero, List.set_cons_succ]
      refine call_take (i := 3) (v := (.pointer (some ⟨gn, 0, none⟩))) rfl (by kernel_rfl) (by kernel_rfl) (by kernel_rfl) (fun _ _ _ h => h) ⟨by kernel_rfl, .inr (fun w' _ => by go_simp)⟩ ?_
      simp only [Act.put, List.getElem_toArray, List.getElem_cons_succ, List.getElem_cons_zero, List.setIfInBounds_toArray, List.set_cons_zero, List.set_cons_succ]
      refine call_take (i := 4) (v := (.int .i64 p2)) rfl (by kernel_rfl) (by kernel_rfl) (by kernel_rfl) (fun _ _ _ h => h) ⟨by kernel_rfl, .inr (fun w' hSw => by have hk := (show Km w [(gn, .int .i64 p2, .int .i64 q2), (gc, .int .i64 c2, .int .i64 d2), (gb, .int .i64 b1, .int .i64 b2), (ga, .int .i64 a1, .int .i64 a2)] w' from hSw).k0; have q0 := hk.c0; have q1 := hk.c1; clear hSw hk; go_simp)⟩ ?_
      simp only [Act.put, List.getElem_toArray, List.getElem_cons_succ, List.getElem_cons_zero, List.setIfInBounds_toArray, List.set_cons_zero, List.set_cons_succ]
      refine call_take (i := 5) (v := (.agg #[.int .i64 c2, .int .i64 d2])) rfl (by kernel_rfl) (by kernel_rfl) (by kernel_rfl) (fun _ _ _ h => h) ⟨by kernel_rfl, .inr (fun w' hSw => by have hk := (show Km w [(gn, .int .i64 p2, .int .i64 q2), (gc, .int .i64 c2, .int .i64 d2), (gb, .int .i64 b1, .int .i64 b2), (ga, .int .i64 a1, .int .i64 a2)] w' from hSw).k1; have q0 := hk.c0; have q1 := hk.c1; clear hSw hk; go_simp)⟩ ?_
      simp only [Act.put, List.getElem_toArray, List.getElem_cons_succ, List.getElem_cons_zero, List.setIfInBounds_toArray, List.set_cons_zero, List.set_cons_succ]
      refine call_take (i := 6) (v := (.bool true)) rfl (by kernel_rfl) (by kernel_rfl) (by kernel_rfl) (fun _ _ _ h => h) ⟨by kernel_rfl, .inl ⟨38, #[.int .i64 p2, .agg #[.int .i64 c2, .int .i64 d2]], fun w' => by go_simp, fun w' hw => (I2.out w').mono fun e u ⟨h1, h2⟩ => ⟨h1, h2, Km.later hw h2⟩⟩⟩ ?_
      simp only [Act.put, List.getElem_toArray, List.getElem_cons_succ, List.getElem_cons_zero, List.setIfInBounds_toArray, List.set_cons_zero, List.set_cons_succ]
      refine call_take (i := 7) (v := (.bool false)) rfl (by kernel_rfl) (by kernel_rfl) (by kernel_rfl) (fun _ _ _ h => h) ⟨by kernel_rfl, .inr (fun w' _ => by go_simp)⟩ ?_
      simp only [Act.put, List.getElem_toArray, List.getElem_cons_succ, List.getElem_cons_zero, List.setIfInBounds_toArray, List.set_cons_zero, List.set_cons_succ]
      refine call_take (i := 8) (v := (.bool false)) rfl (by kernel_rfl) (by kernel_rfl) (by kernel_rfl) (fun _ _ _ h => h) ⟨by kernel_rfl, .inr (fun w' _ => by go_simp)⟩ ?_
      simp only [Act.put, List.getElem_toArray, List.getElem_cons_succ, List.getElem_cons_zero, List.setIfInBounds_toArray, List.set_cons_zero, List.set_cons_succ]
      refine call_take (i := 9) (v := (.bool false)) rfl (by kernel_rfl) (by kernel_rfl) (by kernel_rfl) (fun _ _ _ h => h) ⟨by kernel_rfl, .inr (fun w' _ => by go_simp)⟩ ?_
      simp only [Act.put, List.getElem_toArray, List.getElem_cons_succ, List.getElem_cons_zero, List.setIfInBounds_toArray, List.set_cons_zero, List.set_cons_succ]
      refine call_take (i := 10) (v := (.pointer (some ⟨gn, 1, none⟩))) rfl (by kernel_rfl) (by kernel_rfl) (by kernel_rfl) (fun _ _ _ h => h) ⟨by kernel_rfl, .inr (fun w' _ => by go_simp)⟩ ?_
      simp only [Act.put, List.getElem_toArray, List.getElem_cons_succ, List.getElem_cons_zero, List.setIfInBounds_toArray, List.set_cons_zero, List.set_cons_succ]
      refine call_take (i := 11) (v := (.int .i64 q2)) rfl (by kernel_rfl) (by kernel_rfl) (by kernel_rfl) (fun _ _ _ h => h) ⟨by kernel_rfl, .inr (fun w' hSw => by have hk := (show Km w [(gn, .int .i64 p2, .int .i64 q2), (gc, .int .i64 c2, .int .i64 d2), (gb, .int .i64 b1, .int .i64 b2), (ga, .int .i64 a1, .int .i64 a2)] w' from hSw).k0; have q0 := hk.c0; have q1 := hk.c1; clear hSw hk; go_simp)⟩ ?_
      simp only [Act.put, List.getElem_toArray, List.getElem_cons_succ, List.getElem_cons_zero, List.setIfInBounds_toArray, List.set_cons_zero, List.set_cons_succ]
      refine call_take (i := 12) (v := (.agg #[.int .i64 c2, .int .i64 d2])) rfl (by kernel_rfl) (by kernel_rfl) (by kernel_rfl) (fun _ _ _ h => h) ⟨by kernel_rfl, .inr (fun w' hSw => by have hk := (show Km w [(gn, .int .i64 p2, .int .i64 q2), (gc, .int .i64 c2, .int .i64 d2), (gb, .int .i64 b1, .int .i64 b2), (ga, .int .i64 a1, .int .i64 a2)] w' from hSw).k1; have q0 := hk.c0; have q1 := hk.c1; clear hSw hk; go_simp)⟩ ?_
      simp only [Act.put, List.getElem_toArray, List.getElem_cons_succ, List.getElem_cons_zero, List.setIfInBounds_toArray, List.set_cons_zero, List.set_cons_succ]
      refine call_take (i := 13) (v := (.bool true)) rfl (by kernel_rfl) (by kernel_rfl) (by kernel_rfl) (fun _ _ _ h => h) ⟨by kernel_rfl, .inl ⟨38, #[.int .i64 q2, .agg #[.int .i64 c2, .int .i64 d2]], fun w' => by go_simp, fun w' hw => (J2.out w').mono fun e u ⟨h1, h2⟩ => ⟨h1, h2, Km.later hw h2⟩⟩⟩ ?_
      simp only [Act.put, List.getElem_toArray, List.getElem_cons_succ, List.getElem_cons_zero, List.setIfInBounds_toArray, List.set_cons_zero, List.set_cons_succ]
      refine call_take (i := 14) (v := (.bool false)) rfl (by kernel_rfl) (by kernel_rfl) (by kernel_rfl) (fun _ _ _ h => h) ⟨by kernel_rfl, .inr (fun w' _ => by go_simp)⟩ ?_
      simp only [Act.put, List.getElem_toArray, List.getElem_cons_succ, List.getElem_cons_zero, List.setIfInBounds_toArray, List.set_cons_zero, List.set_cons_succ]
      refine call_take (i := 15) (v := (.bool false)) rfl (by kernel_rfl) (by kernel_rfl) (by kernel_rfl) (fun _ _ _ h => h) ⟨by kernel_rfl, .inr (fun w' _ => by go_simp)⟩ ?_
      simp only [Act.put, List.getElem_toArray, List.getElem_cons_succ, List.getElem_cons_zero, List.setIfInBounds_toArray, List.set_cons_zero, List.set_cons_succ]
      refine call_take (i := 16) (v := (.bool false)) rfl (by kernel_rfl) (by kernel_rfl) (by kernel_rfl) (fun _ _ _ h => h) ⟨by kernel_rfl, .inr (fun w' _ => by go_simp)⟩ ?_
      simp only [Act.put, List.getElem_toArray, List.getElem_cons_succ, List.getElem_cons_zero, List.setIfInBounds_toArray, List.set_cons_zero, List.set_cons_succ]
      refine call_take (i := 17) (v := (.agg #[.int .i64 c2, .int .i64 d2])) rfl (by kernel_rfl) (by kernel_rfl) (by kernel_rfl) (fun _ _ _ h => h) ⟨by kernel_rfl, .inr (fun w' hSw => by have hk := (show Km w [(gn, .int .i64 p2, .int .i64 q2), (gc, .int .i64 c2, .int .i64 d2), (gb, .int .i64 b1, .int .i64 b2), (ga, .int .i64 a1, .int .i64 a2)] w' from hSw).k1; have q0 := hk.c0; have q1 := hk.c1; clear hSw hk; go_simp)⟩ ?_
      simp only [Act.put, List.getElem_toArray, List.getElem_cons_succ, List.getElem_cons_zero, List.setIfInBounds_toArray, List.set_cons_zero, List.set_cons_succ]
      refine call_take (i := 18) (v := (.agg #[.int .i64 a1, .int .i64 a2])) rfl (by kernel_rfl) (by kernel_rfl) (by kernel_rfl) (fun _ _ _ h => h) ⟨by kernel_rfl, .inr (fun w' hSw => by have hk := (show Km w [(gn, .int .i64 p2, .int .i64 q2), (gc, .int .i64 c2, .int .i64 d2), (gb, .int .i64 b1, .int .i64 b2), (ga, .int .i64 a1, .int .i64 a2)] w' from hSw).k3; have q0 := hk.c0; have q1 := hk.c1; clear hSw hk; go_simp)⟩ ?_
      simp only [Act.put, List.getElem_toArray, List.getElem_cons_succ, List.getElem_cons_zero, List.setIfInBounds_toArray, List.set_cons_zero, List.set_cons_succ]
      refine call_take (i := 19) (v := (.agg #[.int .i64 b1, .int .i64 b2])) rfl (by kernel_rfl) (by kernel_rfl) (by kernel_rfl) (fun _ _ _ h => h) ⟨by kernel_rfl, .inr (fun w' hSw => by have hk := (show Km w [(gn, .int .i64 p2, .int .i64 q2), (gc, .int .i64 c2, .int .i64 d2), (gb, .int .i64 b1, .int .i64 b2), (ga, .int .i64 a1, .int .i64 a2)] w' from hSw).k2; have q0 := hk.c0; have q1 := hk.c1; clear hSw hk; go_simp)⟩ ?_
      simp only [Act.put, List.getElem_toArray, List.getElem_cons_succ, List.getElem_cons_zero, List.setIfInBounds_toArray, List.set_cons_zero, List.set_cons_succ]
      refine call_take (i := 20) (v := (.int .i64 2)) rfl (by kernel_rfl) (by kernel_rfl) (by kernel_rfl) (fun _ _ _ h => h) ⟨by kernel_rfl, .inr (fun w' _ => by go_simp)⟩ ?_
      simp only [Act.put, List.getElem_toArray, List.getElem_cons_succ, List.getElem_cons_zero, List.setIfInBounds_toArray, List.set_cons_zero, List.set_cons_succ]
      refine call_take (i := 21) (v := (.agg #[.int .i64 c2, .int .i64 d2])) rfl (by kernel_rfl) (by kernel_rfl) (by kernel_rfl) (fun _ _ _ h => h) ⟨by kernel_rfl, .inl ⟨40, #[.agg #[.int .i64 a1, .int .i64 a2], .agg #[.int .i64 b1, .int .i64 b2], .int .i64 2], fun w' => by go_simp, fun w' hw => (C2.out w').mono fun e u ⟨h1, h2⟩ => ⟨h1, h2, Km.later hw h2⟩⟩⟩ ?_
      simp only [Act.put, List.getElem_toArray, List.getElem_cons_succ, List.getElem_cons_zero, List.setIfInBounds_toArray, List.set_cons_zero, List.set_cons_succ]
      refine call_take (i := 22) (v := (.bool false)) rfl (by kernel_rfl) (by kernel_rfl) (by kernel_rfl) (fun _ _ _ h => h) ⟨by kernel_rfl, .inr (fun w' _ => by go_simp)⟩ ?_
      simp only [Act.put, List.getElem_toArray, List.getElem_cons_succ, List.getElem_cons_zero, List.setIfInBounds_toArray, List.set_cons_zero, List.set_cons_succ]
      refine call_take (i := 23) (v := (.bool false)) rfl (by kernel_rfl) (by kernel_rfl) (by kernel_rfl) (fun _ _ _ h => h) ⟨by kernel_rfl, .inr (fun w' _ => by go_simp)⟩ ?_
      simp only [Act.put, List.getElem_toArray, List.getElem_cons_succ, List.getElem_cons_zero, List.setIfInBounds_toArray, List.set_cons_zero, List.set_cons_succ]
      refine E_done (by kernel_rfl) (fun u hu => ?_) _
      have HU := Lib.hid (show Km w [(gn, .int .i64 p2, .int .i64 q2), (gc, .int .i64 c2, .int .i64 d2), (gb, .int .i64 b1, .int .i64 b2), (ga, .int .i64 a1, .int .i64 a2)] u from hu.2)
      clear hu
      go_wp2_with fail
      first
        | exact ⟨⟨3, by omega, rfl, ⟨fun t ht => HU.out.keep t (List.mem_cons_of_mem _ (List.mem_cons_of_mem _ ht)), HU.out.bl⟩⟩, by simp [intOf]⟩
        | (go_roundw
           case rel => exact ⟨3, by omega, rfl, ⟨fun t ht => HU.out.keep t (List.mem_cons_of_mem _ (List.mem_cons_of_mem _ ht)), HU.out.bl⟩⟩
           case measure => simp [intOf])
    · cases z
      · obtain rfl := HZ3'.out rfl
        have V3n := Lib.hid (V3.out rfl)
        have I3n := Lib.hid (I3.out rfl)
        have J3n := Lib.hid (J3.out rfl)
        have C3n := Lib.hid (C3.out rfl)
        clear V3 I3 J3 C3
        have K0 := HK.out.alloc (.cells #[.int .i64 0, .int .i64 0] 23)
        have k5 := Cell2.new wr (.int .i64 0) (.int .i64 0) 23
        have na : ga ≠ wr.heap.size := Nat.ne_of_lt HK.out.k1.lt
        have nb : gb ≠ wr.heap.size := Nat.ne_of_lt HK.out.k0.lt
        have nw : w.heap.size ≤ wr.heap.size := HK.out.bl.size
        have NA := Lib.hid na
        have NB := Lib.hid nb
        have NW := Lib.hid nw
        have ca0 := K0.k1.c0
        have ca1 := K0.k1.c1
        have cb0 := K0.k0.c0
        have cb1 := K0.k0.c1
        have HK5 := Lib.hid K0
        have N5 := Lib.hid k5
        clear K0 k5 na nb nw HK
        go_wp2_with fail
        clear ca0 ca1 cb0 cb1
        refine (O3.out _).mono ?_
        rintro e w6 ⟨he, hb⟩
        subst he
        generalize wr.alloc (.cells #[.int .i64 0, .int .i64 0] 23) = w5 at *
        generalize wr.heap.size = gc at *
        have n6 := N5.out.later hb
        have K6 := HK5.out.later hb
        have k60 := n6.c0
        have k61 := n6.c1
        have f60 := n6.f0
        have f61 := n6.f1
        have n7 := n6.set (.int .i64 c3) (.int .i64 d3)
        have K7 : Km w [(gb, .int .i64 b1, .int .i64 b2), (ga, .int .i64 a1, .int .i64 a2)] ((w6.setCell ⟨gc, 0, none⟩ (.int .i64 c3)).setCell ⟨gc, 1, none⟩ (.int .i64 d3)) :=
          ⟨fun t ht => by
            simp at ht
            rcases ht with rfl | rfl
            · exact (K6.k0.setOther NB.out 0 _).setOther NB.out 1 _
            · exact (K6.k1.setOther NA.out 0 _).setOther NA.out 1 _, (K6.bl.setCell (p := ⟨gc, 0, none⟩) NW.out _).setCell (p := ⟨gc, 1, none⟩) NW.out _⟩
        obtain ⟨w7, hw7⟩ : ∃ u, (w6.setCell ⟨gc, 0, none⟩ (.int .i64 c3)).setCell ⟨gc, 1, none⟩ (.int .i64 d3) = u := ⟨_, rfl⟩
        rw [hw7] at n7 K7
        have K8 := Lib.hid (K7.more n7)
        clear n7 K7 n6 K6 N5 HK5 NA NB NW
        have cb0 := K8.out.k1.c0
        have cb1 := K8.out.k1.c1
        go_wp2_with fail
        clear k60 k61 f60 f61 cb0 cb1 hw7 hb
        refine (HZ.out _).mono ?_
        rintro e w8 ⟨he, hb⟩
        subst he
        have K9 := Lib.hid (K8.out.later hb)
        clear K8
        have K8 := K9
        clear K9 hb
        go_wp2_with fail
        refine (V3n.out _).mono ?_
        rintro e w9 ⟨he, hb⟩
        subst he
        have K9 := (K8.out.later hb).alloc (.cells #[.int .i64 p3, .int .i64 q3] 23)
        obtain ⟨w10, hw10⟩ : ∃ u, w9.alloc (.cells #[.int .i64 p3, .int .i64 q3] 23) = u := ⟨_, rfl⟩
        obtain ⟨gn, hgn⟩ : ∃ n, w9.heap.size = n := ⟨_, rfl⟩
        have k9 := Cell2.new w9 (.int .i64 p3) (.int .i64 q3) 23
        rw [hw10, hgn] at k9
        rw [hw10] at K9
        have K10 := Lib.hid (K9.more k9)
        clear k9 K9 hb K8
        go_wp2_with fail
        clear hw10 hgn
        refine E_start (S := fun u => Km w [(gn, .int .i64 p3, .int .i64 q3), (gc, .int .i64 c3, .int .i64 d3), (gb, .int .i64 b1, .int .i64 b2), (ga, .int .i64 a1, .int .i64 a2)] u) (by kernel_rfl) K10.out.drew ?_
        clear K10
        refine call_take (i := 0) (v := (.int .i64 0)) rfl (by kernel_rfl) (by kernel_rfl) (by kernel_rfl) (fun _ _ _ h => h) ⟨by kernel_rfl, .inr (fun w' _ => by go_simp)⟩ ?_
        simp only [Act.put, List.getElem_toArray, List.getElem_cons_succ, List.getElem_cons_zero, List.setIfInBounds_toArray, List.set_cons_zero, List.set_cons_succ]
        refine call_take (i := 1) (v := (.bool false)) rfl (by kernel_rfl) (by kernel_rfl) (by kernel_rfl) (fun _ _ _ h => h) ⟨by kernel_rfl, .inr (fun w' _ => by go_simp)⟩ ?_
        simp only [Act.put, List.getElem_toArray, List.getElem_cons_succ, List.getElem_cons_zero, List.setIfInBounds_toArray, List.set_cons_zero, List.set_cons_succ]
        refine call_take (i := 2) (v := (.bool false)) rfl (by kernel_rfl) (by kernel_rfl) (by kernel_rfl) (fun _ _ _ h => h) ⟨by kernel_rfl, .inr (fun w' _ => by go_simp)⟩ ?_
        simp only [Act.put, List.getElem_toArray, List.getElem_cons_succ, List.getElem_cons_zero, List.setIfInBounds_toArray, List.set_cons_zero, List.set_cons_succ]
        refine call_take (i := 3) (v := (.pointer (some ⟨gn, 0, none⟩))) rfl (by kernel_rfl) (by kernel_rfl) (by kernel_rfl) (fun _ _ _ h => h) ⟨by kernel_rfl, .inr (fun w' _ => by go_simp)⟩ ?_
        simp only [Act.put, List.getElem_toArray, List.getElem_cons_succ, List.getElem_cons_zero, List.setIfInBounds_toArray, List.set_cons_zero, List.set_cons_succ]
        refine call_take (i := 4) (v := (.int .i64 p3)) rfl (by kernel_rfl) (by kernel_rfl) (by kernel_rfl) (fun _ _ _ h => h) ⟨by kernel_rfl, .inr (fun w' hSw => by have hk := (show Km w [(gn, .int .i64 p3, .int .i64 q3), (gc, .int .i64 c3, .int .i64 d3), (gb, .int .i64 b1, .int .i64 b2), (ga, .int .i64 a1, .int .i64 a2)] w' from hSw).k0; have q0 := hk.c0; have q1 := hk.c1; clear hSw hk; go_simp)⟩ ?_
        simp only [Act.put, List.getElem_toArray, List.getElem_cons_succ, List.getElem_cons_zero, List.setIfInBounds_toArray, List.set_cons_zero, List.set_cons_succ]
        refine call_take (i := 5) (v := (.agg #[.int .i64 c3, .int .i64 d3])) rfl (by kernel_rfl) (by kernel_rfl) (by kernel_rfl) (fun _ _ _ h => h) ⟨by kernel_rfl, .inr (fun w' hSw => by have hk := (show Km w [(gn, .int .i64 p3, .int .i64 q3), (gc, .int .i64 c3, .int .i64 d3), (gb, .int .i64 b1, .int .i64 b2), (ga, .int .i64 a1, .int .i64 a2)] w' from hSw).k1; have q0 := hk.c0; have q1 := hk.c1; clear hSw hk; go_simp)⟩ ?_
        simp only [Act.put, List.getElem_toArray, List.getElem_cons_succ, List.getElem_cons_zero, List.setIfInBounds_toArray, List.set_cons_zero, List.set_cons_succ]
        refine call_take (i := 6) (v := (.bool true)) rfl (by kernel_rfl) (by kernel_rfl) (by kernel_rfl) (fun _ _ _ h => h) ⟨by kernel_rfl, .inl ⟨38, #[.int .i64 p3, .agg #[.int .i64 c3, .int .i64 d3]], fun w' => by go_simp, fun w' hw => (I3n.out w').mono fun e u ⟨h1, h2⟩ => ⟨h1, h2, Km.later hw h2⟩⟩⟩ ?_
        simp only [Act.put, List.getElem_toArray, List.getElem_cons_succ, List.getElem_cons_zero, List.setIfInBounds_toArray, List.set_cons_zero, List.set_cons_succ]
        refine call_take (i := 7) (v := (.bool false)) rfl (by kernel_rfl) (by kernel_rfl) (by kernel_rfl) (fun _ _ _ h => h) ⟨by kernel_rfl, .inr (fun w' _ => by go_simp)⟩ ?_
        simp only [Act.put, List.getElem_toArray, List.getElem_cons_succ, List.getElem_cons_zero, List.setIfInBounds_toArray, List.set_cons_zero, List.set_cons_succ]
        refine call_take (i := 8) (v := (.bool false)) rfl (by kernel_rfl) (by kernel_rfl) (by kernel_rfl) (fun _ _ _ h => h) ⟨by kernel_rfl, .inr (fun w' _ => by go_simp)⟩ ?_
        simp only [Act.put, List.getElem_toArray, List.getElem_cons_succ, List.getElem_cons_zero, List.setIfInBounds_toArray, List.set_cons_zero, List.set_cons_succ]
        refine call_take (i := 9) (v := (.bool false)) rfl (by kernel_rfl) (by kernel_rfl) (by kernel_rfl) (fun _ _ _ h => h) ⟨by kernel_rfl, .inr (fun w' _ => by go_simp)⟩ ?_
        simp only [Act.put, List.getElem_toArray, List.getElem_cons_succ, List.getElem_cons_zero, List.setIfInBounds_toArray, List.set_cons_zero, List.set_cons_succ]
        refine call_take (i := 10) (v := (.pointer (some ⟨gn, 1, none⟩))) rfl (by kernel_rfl) (by kernel_rfl) (by kernel_rfl) (fun _ _ _ h => h) ⟨by kernel_rfl, .inr (fun w' _ => by go_simp)⟩ ?_
        simp only [Act.put, List.getElem_toArray, List.getElem_cons_succ, List.getElem_cons_zero, List.setIfInBounds_toArray, List.set_cons_zero, List.set_cons_succ]
        refine call_take (i := 11) (v := (.int .i64 q3)) rfl (by kernel_rfl) (by kernel_rfl) (by kernel_rfl) (fun _ _ _ h => h) ⟨by kernel_rfl, .inr (fun w' hSw => by have hk := (show Km w [(gn, .int .i64 p3, .int .i64 q3), (gc, .int .i64 c3, .int .i64 d3), (gb, .int .i64 b1, .int .i64 b2), (ga, .int .i64 a1, .int .i64 a2)] w' from hSw).k0; have q0 := hk.c0; have q1 := hk.c1; clear hSw hk; go_simp)⟩ ?_
        simp only [Act.put, List.getElem_toArray, List.getElem_cons_succ, List.getElem_cons_zero, List.setIfInBounds_toArray, List.set_cons_zero, List.set_cons_succ]
        refine call_take (i := 12) (v := (.agg #[.int .i64 c3, .int .i64 d3])) rfl (by kernel_rfl) (by kernel_rfl) (by kernel_rfl) (fun _ _ _ h => h) ⟨by kernel_rfl, .inr (fun w' hSw => by have hk := (show Km w [(gn, .int .i64 p3, .int .i64 q3), (gc, .int .i64 c3, .int .i64 d3), (gb, .int .i64 b1, .int .i64 b2), (ga, .int .i64 a1, .int .i64 a2)] w' from hSw).k1; have q0 := hk.c0; have q1 := hk.c1; clear hSw hk; go_simp)⟩ ?_
        simp only [Act.put, List.getElem_toArray, List.getElem_cons_succ, List.getElem_cons_zero, List.setIfInBounds_toArray, List.set_cons_zero, List.set_cons_succ]
        refine call_take (i := 13) (v := (.bool true)) rfl (by kernel_rfl) (by kernel_rfl) (by kernel_rfl) (fun _ _ _ h => h) ⟨by kernel_rfl, .inl ⟨38, #[.int .i64 q3, .agg #[.int .i64 c3, .int .i64 d3]], fun w' => by go_simp, fun w' hw => (J3n.out w').mono fun e u ⟨h1, h2⟩ => ⟨h1, h2, Km.later hw h2⟩⟩⟩ ?_
        simp only [Act.put, List.getElem_toArray, List.getElem_cons_succ, List.getElem_cons_zero, List.setIfInBounds_toArray, List.set_cons_zero, List.set_cons_succ]
        refine call_take (i := 14) (v := (.bool false)) rfl (by kernel_rfl) (by kernel_rfl) (by kernel_rfl) (fun _ _ _ h => h) ⟨by kernel_rfl, .inr (fun w' _ => by go_simp)⟩ ?_
        simp only [Act.put, List.getElem_toArray, List.getElem_cons_succ, List.getElem_cons_zero, List.setIfInBounds_toArray, List.set_cons_zero, List.set_cons_succ]
        refine call_take (i := 15) (v := (.bool false)) rfl (by kernel_rfl) (by kernel_rfl) (by kernel_rfl) (fun _ _ _ h => h) ⟨by kernel_rfl, .inr (fun w' _ => by go_simp)⟩ ?_
        simp only [Act.put, List.getElem_toArray, List.getElem_cons_succ, List.getElem_cons_zero, List.setIfInBounds_toArray, List.set_cons_zero, List.set_cons_succ]
        refine call_take (i := 16) (v := (.bool false)) rfl (by kernel_rfl) (by kernel_rfl) (by kernel_rfl) (fun _ _ _ h => h) ⟨by kernel_rfl, .inr (fun w' _ => by go_simp)⟩ ?_
        simp only [Act.put, List.getElem_toArray, List.getElem_cons_succ, List.getElem_cons_zero, List.setIfInBounds_toArray, List.set_cons_zero, List.set_cons_succ]
        refine call_take (i := 17) (v := (.agg #[.int .i64 c3, .int .i64 d3])) rfl (by kernel_rfl) (by kernel_rfl) (by kernel_rfl) (fun _ _ _ h => h) ⟨by kernel_rfl, .inr (fun w' hSw => by have hk := (show Km w [(gn, .int .i64 p3, .int .i64 q3), (gc, .int .i64 c3, .int .i64 d3), (gb, .int .i64 b1, .int .i64 b2), (ga, .int .i64 a1, .int .i64 a2)] w' from hSw).k1; have q0 := hk.c0; have q1 := hk.c1; clear hSw hk; go_simp)⟩ ?_
        simp only [Act.put, List.getElem_toArray, List.getElem_cons_succ, List.getElem_cons_zero, List.setIfInBounds_toArray, List.set_cons_zero, List.set_cons_succ]
        refine call_take (i := 18) (v := (.agg #[.int .i64 a1, .int .i64 a2])) rfl (by kernel_rfl) (by kernel_rfl) (by kernel_rfl) (fun _ _ _ h => h) ⟨by kernel_rfl, .inr (fun w' hSw => by have hk := (show Km w [(gn, .int .i64 p3, .int .i64 q3), (gc, .int .i64 c3, .int .i64 d3), (gb, .int .i64 b1, .int .i64 b2), (ga, .int .i64 a1, .int .i64 a2)] w' from hSw).k3; have q0 := hk.c0; have q1 := hk.c1; clear hSw hk; go_simp)⟩ ?_
        simp only [Act.put, List.getElem_toArray, List.getElem_cons_succ, List.getElem_cons_zero, List.setIfInBounds_toArray, List.set_cons_zero, List.set_cons_succ]
        refine call_take (i := 19) (v := (.agg #[.int .i64 b1, .int .i64 b2])) rfl (by kernel_rfl) (by kernel_rfl) (by kernel_rfl) (fun _ _ _ h => h) ⟨by kernel_rfl, .inr (fun w' hSw => by have hk := (show Km w [(gn, .int .i64 p3, .int .i64 q3), (gc, .int .i64 c3, .int .i64 d3), (gb, .int .i64 b1, .int .i64 b2), (ga, .int .i64 a1, .int .i64 a2)] w' from hSw).k2; have q0 := hk.c0; have q1 := hk.c1; clear hSw hk; go_simp)⟩ ?_
        simp only [Act.put, List.getElem_toArray, List.getElem_cons_succ, List.getElem_cons_zero, List.setIfInBounds_toArray, List.set_cons_zero, List.set_cons_succ]
        refine call_take (i := 20) (v := (.int .i64 3)) rfl (by kernel_rfl) (by kernel_rfl) (by kernel_rfl) (fun _ _ _ h => h) ⟨by kernel_rfl, .inr (fun w' _ => by go_simp)⟩ ?_
        simp only [Act.put, List.getElem_toArray, List.getElem_cons_succ, List.getElem_cons_zero, List.setIfInBounds_toArray, List.set_cons_zero, List.set_cons_succ]
        refine call_take (i := 21) (v := (.agg #[.int .i64 c3, .int .i64 d3])) rfl (by kernel_rfl) (by kernel_rfl) (by kernel_rfl) (fun _ _ _ h => h) ⟨by kernel_rfl, .inl ⟨40, #[.agg #[.int .i64 a1, .int .i64 a2], .agg #[.int .i64 b1, .int .i64 b2], .int .i64 3], fun w' => by go_simp, fun w' hw => (C3n.out w').mono fun e u ⟨h1, h2⟩ => ⟨h1, h2, Km.later hw h2⟩⟩⟩ ?_
        simp only [Act.put, List.getElem_toArray, List.getElem_cons_succ, List.getElem_cons_zero, List.setIfInBounds_toArray, List.set_cons_zero, List.set_cons_succ]
        refine call_take (i := 22) (v := (.bool false)) rfl (by kernel_rfl) (by kernel_rfl) (by kernel_rfl) (fun _ _ _ h => h) ⟨by kernel_rfl, .inr (fun w' _ => by go_simp)⟩ ?_
        simp only [Act.put, List.getElem_toArray, List.getElem_cons_succ, List.getElem_cons_zero, List.setIfInBounds_toArray, List.set_cons_zero, List.set_cons_succ]
        refine call_take (i := 23) (v := (.bool false)) rfl (by kernel_rfl) (by kernel_rfl) (by kernel_rfl) (fun _ _ _ h => h) ⟨by kernel_rfl, .inr (fun w' _ => by go_simp)⟩ ?_
        simp only [Act.put, List.getElem_toArray, List.getElem_cons_succ, List.getElem_cons_zero, List.setIfInBounds_toArray, List.set_cons_zero, List.set_cons_succ]
        refine E_done (by kernel_rfl) (fun u hu => ?_) _
        have HU := Lib.hid (show Km w [(gn, .int .i64 p3, .int .i64 q3), (gc, .int .i64 c3, .int .i64 d3), (gb, .int .i64 b1, .int .i64 b2), (ga, .int .i64 a1, .int .i64 a2)] u from hu.2)
        clear hu
        go_wp2_with fail
        first
          | exact ⟨⟨4, by omega, rfl, ⟨fun t ht => HU.out.keep t (List.mem_cons_of_mem _ (List.mem_cons_of_mem _ ht)), HU.out.bl⟩⟩, by simp [intOf]⟩
          | (go_roundw
             case rel => exact ⟨4, by omega, rfl, ⟨fun t ht => HU.out.keep t (List.mem_cons_of_mem _ (List.mem_cons_of_mem _ ht)), HU.out.bl⟩⟩
             case measure => simp [intOf])
      · obtain rfl := HZ3.out rfl
        have K0 := HK.out.alloc (.cells #[.int .i64 0, .int .i64 0] 23)
        have k5 := Cell2.new wr (.int .i64 0) (.int .i64 0) 23
        have na : ga ≠ wr.heap.size := Nat.ne_of_lt HK.out.k1.lt
        have nb : gb ≠ wr.heap.size := Nat.ne_of_lt HK.out.k0.lt
        have nw : w.heap.size ≤ wr.heap.size := HK.out.bl.size
        have NA := Lib.hid na
        have NB := Lib.hid nb
        have NW := Lib.hid nw
        have ca0 := K0.k1.c0
        have ca1 := K0.k1.c1
        have cb0 := K0.k0.c0
        have cb1 := K0.k0.c1
        have HK5 := Lib.hid K0
        have N5 := Lib.hid k5
        clear K0 k5 na nb nw HK
        go_wp2_with fail
        clear ca0 ca1 cb0 cb1
        refine (O3.out _).mono ?_
        rintro e w6 ⟨he, hb⟩
        subst he
        generalize wr.alloc (.cells #[.int .i64 0, .int .i64 0] 23) = w5 at *
        generalize wr.heap.size = gc at *
        have n6 := N5.out.later hb
        have K6 := HK5.out.later hb
        have k60 := n6.c0
        have k61 := n6.c1
        have f60 := n6.f0
        have f61 := n6.f1
        have n7 := n6.set (.int .i64 c3) (.int .i64 d3)
        have K7 : Km w [(gb, .int .i64 b1, .int .i64 b2), (ga, .int .i64 a1, .int .i64 a2)] ((w6.setCell ⟨gc, 0, none⟩ (.int .i64 c3)).setCell ⟨gc, 1, none⟩ (.int .i64 d3)) :=
          ⟨fun t ht => by
            simp at ht
            rcases ht with rfl | rfl
            · exact (K6.k0.setOther NB.out 0 _).setOther NB.out 1 _
            · exact (K6.k1.setOther NA.out 0 _).setOther NA.out 1 _, (K6.bl.setCell (p := ⟨gc, 0, none⟩) NW.out _).setCell (p := ⟨gc, 1, none⟩) NW.out _⟩
        obtain ⟨w7, hw7⟩ : ∃ u, (w6.setCell ⟨gc, 0, none⟩ (.int .i64 c3)).setCell ⟨gc, 1, none⟩ (.int .i64 d3) = u := ⟨_, rfl⟩
        rw [hw7] at n7 K7
        have K8 := Lib.hid (K7.more n7)
        clear n7 K7 n6 K6 N5 HK5 NA NB NW
        have cb0 := K8.out.k1.c0
        have cb1 := K8.out.k1.c1
        go_wp2_with fail
        clear k60 k61 f60 f61 cb0 cb1 hw7 hb
        refine (HZ.out _).mono ?_
        rintro e w8 ⟨he, hb⟩
        subst he
        have K9 := Lib.hid (K8.out.later hb)
        clear K8
        have K8 := K9
        clear K9 hb
        go_wp2_with fail
        first
          | exact ⟨⟨4, by omega, rfl, ⟨fun t ht => K8.out.keep t (List.mem_cons_of_mem _ ht), K8.out.bl⟩⟩, by simp [intOf]⟩
          | (go_roundw
             case rel => exact ⟨4, by omega, rfl, ⟨fun t ht => K8.out.keep t (List.mem_cons_of_mem _ ht), K8.out.bl⟩⟩
             case measure => simp [intOf])
    · go_wp2_with fail
      refine (awake_any _).mono ?_
      rintro e w' ⟨he, hb⟩
      subst he
      have HB' := Lib.hid (Below.after HK.out.bl hb)
      clear hb
      go_wp2_with fail
      go_ret
      exact ⟨rfl, HB'.out⟩
end Go.Proofs.Ytmmgbofhbnflkaa
