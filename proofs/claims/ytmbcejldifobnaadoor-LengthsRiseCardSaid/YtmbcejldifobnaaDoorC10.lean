import Derived.Test.YtmbcejldifobnaaDoorC07
import Derived.Test.YtmbcejldifobnaaDoorC09
namespace Go.Proofs.YtmbcejldifobnaaDoor.Sp
open Go.RowKit
/-- The two words of a product. -/
def hw (p : Int) : Int := p / 18446744073709551616
def lw (p : Int) : Int := p % 18446744073709551616
theorem times_hl (x y : Int) (w : World) (hx : I64 x) (hy : I64 y) :
    Calls Tryd.prog 197 #[.int .i64 x, .int .i64 y] w fun e w' => e = .returned (.agg #[.int .i64 (hw (x * y)), .int .u64 (lw (x * y))]) ∧ Below w.heap.size w w' := times_any x y w hx hy
theorem below_hl (p q : Int) (w : World) :
    Calls Tryd.prog 198 #[.agg #[.int .i64 (hw p), .int .u64 (lw p)], .agg #[.int .i64 (hw q), .int .u64 (lw q)]] w fun e w' => e = .returned (.bool (decide (p < q))) ∧ Below w.heap.size w w' := pbelow_any p q w
theorem down_hl (p d : Int) (w : World) (hp : Fits p) (hd : 1 ≤ d ∧ d ≤ 9223372036854775807) :
    Calls Tryd.prog 199 #[.agg #[.int .i64 (hw p), .int .u64 (lw p)], .int .i64 d] w fun e w' => e = .returned (.agg #[.int .i64 (hw (p / d)), .int .u64 (lw (p / d))]) ∧ Below w.heap.size w w' := down_any p d w hp hd
theorem up_hl (p d : Int) (w : World) (hp : Fits p) (hd : 1 ≤ d ∧ d ≤ 9223372036854775807) :
    Calls Tryd.prog 201 #[.agg #[.int .i64 (hw p), .int .u64 (lw p)], .int .i64 d] w fun e w' => e = .returned (.agg #[.int .i64 (hw (upI p d)), .int .u64 (lw (upI p d))]) ∧ Below w.heap.size w w' := up_any p d w hp hd
theorem bound_hl (p : Int) (w : World) (hp : Fits p) :
    Calls Tryd.prog 200 #[.agg #[.int .i64 (hw p), .int .u64 (lw p)]] w fun e w' => e = .returned (.tuple #[.int .i64 (if okB p then p else 0), .bool (okB p)]) ∧ Below w.heap.size w w' := bound_any p w hp
def pK (p1 p2 p3 p4 : Int) : Nat → Int
  | 0 => p1
  | 1 => p2
  | 2 => p3
  | _ => p4
def mK (p1 p2 p3 p4 : Int) : Nat → Int
  | 0 => p1
  | k + 1 => if pK p1 p2 p3 p4 k < mK p1 p2 p3 p4 k then pK p1 p2 p3 p4 k else mK p1 p2 p3 p4 k
def MK (p1 p2 p3 p4 : Int) : Nat → Int
  | 0 => p1
  | k + 1 => if MK p1 p2 p3 p4 k < pK p1 p2 p3 p4 k then pK p1 p2 p3 p4 k else MK p1 p2 p3 p4 k
theorem mK_end (p1 p2 p3 p4 : Int) : mK p1 p2 p3 p4 4 = min (min p1 p2) (min p3 p4) := by
  simp only [mK, pK]
  repeat' split
  all_goals omega
theorem MK_end (p1 p2 p3 p4 : Int) : MK p1 p2 p3 p4 4 = max (max p1 p2) (max p3 p4) := by
  simp only [MK, pK]
  repeat' split
  all_goals omega

theorem idx0 (x0 x1 x2 x3 x4 x5 x6 x7 : Value) (w : World) : (Instr.index 223 (.agg #[x0, x1, x2, x3, x4, x5, x6, x7]) (.int .i64 0)).run Tryd.prog w = .ok (.agg #[x0, x1]) w := by
  simp [Instr.index, run_underlying Tryd.underlying223, asIntOf, go_sem]
theorem idx1 (x0 x1 x2 x3 x4 x5 x6 x7 : Value) (w : World) : (Instr.index 223 (.agg #[x0, x1, x2, x3, x4, x5, x6, x7]) (.int .i64 1)).run Tryd.prog w = .ok (.agg #[x2, x3]) w := by
  simp [Instr.index, run_underlying Tryd.underlying223, asIntOf, go_sem]
theorem idx2 (x0 x1 x2 x3 x4 x5 x6 x7 : Value) (w : World) : (Instr.index 223 (.agg #[x0, x1, x2, x3, x4, x5, x6, x7]) (.int .i64 2)).run Tryd.prog w = .ok (.agg #[x4, x5]) w := by
  simp [Instr.index, run_underlying Tryd.underlying223, asIntOf, go_sem]
theorem idx3 (x0 x1 x2 x3 x4 x5 x6 x7 : Value) (w : World) : (Instr.index 223 (.agg #[x0, x1, x2, x3, x4, x5, x6, x7]) (.int .i64 3)).run Tryd.prog w = .ok (.agg #[x6, x7]) w := by
  simp [Instr.index, run_underlying Tryd.underlying223, asIntOf, go_sem]
/-- A block of eight cells that may be written. -/
structure C8 (w : World) (g : Nat) (v : Nat → Value) : Prop where
  c : ∀ i, i < 8 → w.cell? ⟨g, i, none⟩ = some (v i)
  f : ∀ i, i < 8 → w.frozen? ⟨g, i, none⟩ = false
  lt : g < w.heap.size
theorem C8.later {w w' : World} {g : Nat} {v : Nat → Value} (h : C8 w g v) (hb : Below w.heap.size w w') : C8 w' g v where
  c := fun i hi => cell_later hb (h.c i hi)
  f := fun i hi => (hb.frozen (p := ⟨g, i, none⟩) h.lt).trans (h.f i hi)
  lt := Nat.lt_of_lt_of_le h.lt hb.size
theorem C8.new (w : World) (x y : Value) (t : TypeId) : C8 (w.alloc (.cells #[x, y, x, y, x, y, x, y] t)) w.heap.size (fun i => if i % 2 = 0 then x else y) where
  c := fun i hi => by
    match i, hi with
    | 0, _ => simp
    | 1, _ => simp
    | 2, _ => simp
    | 3, _ => simp
    | 4, _ => simp
    | 5, _ => simp
    | 6, _ => simp
    | 7, _ => simp
  f := fun i hi => by simp [World.frozen?, World.alloc, -World.alloc_eq]
  lt := by simp
theorem C8.set {w : World} {g : Nat} {v : Nat → Value} (h : C8 w g v) (j : Nat) (hj : j < 8) (u : Value) : C8 (w.setCell ⟨g, j, none⟩ u) g (fun i => if i = j then u else v i) where
  c := fun i hi => by
    by_cases e : i = j
    · subst e
      simp only [if_true]
      exact World.cell?_setCell_same _ _ _ (h.c i hi)
    · simp only [if_neg e]
      rw [World.cell?_setCell_other _ _ _ _ (by intro e'; injection e' with _ e'; exact e e'.symm)]
      exact h.c i hi
  f := fun i hi => by rw [World.frozen?_setCell]; exact h.f i hi
  lt := by simpa [World.setCell] using h.lt
theorem Fm.over {w w' : World} {K : List (Nat × Value × Value)} {r g : Nat} (h : Fm w K r w') (hg : ∀ t ∈ K, t.1 ≠ g) (hr : r < g) (i : Nat) (u : Value) : Fm w K r (w'.setCell ⟨g, i, none⟩ u) :=
  ⟨fun t ht => (h.keep t ht).setOther (hg t ht) i u, h.ne, let ⟨p, q, e⟩ := h.res; ⟨p, q, e.setOther (by omega) i u⟩, h.bl.setCell (p := ⟨g, i, none⟩) (by have := h.hr; simp only; omega) u, h.hr⟩
theorem C8.setOther {w : World} {g r : Nat} {v : Nat → Value} (h : C8 w g v) (hne : g ≠ r) (j : Nat) (u : Value) : C8 (w.setCell ⟨r, j, none⟩ u) g v where
  c := fun i hi => by
    rw [World.cell?_setCell_other _ _ _ _ (by intro e; injection e with e; exact hne e.symm)]
    exact h.c i hi
  f := fun i hi => by rw [World.frozen?_setCell]; exact h.f i hi
  lt := by simpa [World.setCell] using h.lt

set_option maxRecDepth 100000 in
set_option maxHeartbeats 16000000 in
theorem productsOver_any (a b : Int × Int) (d : Int) (w : World) (ha : I64 a.1 ∧ I64 a.2) (hb : I64 b.1 ∧ I64 b.2) (hd : 1 ≤ d ∧ d ≤ 9223372036854775807) :
    Calls Tryd.prog 192 #[ivV a, ivV b, .int .i64 d] w fun e w' => e = .returned (ivE (prodsW a b d)) ∧ Below w.heap.size w w' := by
  obtain ⟨a1, a2⟩ := a
  obtain ⟨b1, b2⟩ := b
  obtain ⟨ha1, ha2⟩ := ha
  obtain ⟨hb1, hb2⟩ := hb
  have t1 := fun w => times_hl a1 b1 w ha1 hb1
  have t2 := fun w => times_hl a1 b2 w ha1 hb2
  have t3 := fun w => times_hl a2 b1 w ha2 hb1
  have t4 := fun w => times_hl a2 b2 w ha2 hb2
  have PB := Lib.hid below_hl
  have hres : prodsW (a1, a2) (b1, b2) d = spanW (mK (a1 * b1) (a1 * b2) (a2 * b1) (a2 * b2) 4 / d) (upI (MK (a1 * b1) (a1 * b2) (a2 * b1) (a2 * b2) 4) d) := by rw [mK_end, MK_end]; rfl
  have hft : Fits (mK (a1 * b1) (a1 * b2) (a2 * b1) (a2 * b2) 4) ∧ Fits (MK (a1 * b1) (a1 * b2) (a2 * b1) (a2 * b2) 4) := by
    have m1 := mul_bound ha1 hb1
    have m2 := mul_bound ha1 hb2
    have m3 := mul_bound ha2 hb1
    have m4 := mul_bound ha2 hb2
    simp only at m1 m2 m3 m4
    rw [mK_end, MK_end]
    unfold Fits
    omega
  rw [hres]
  have hyes : okB (mK (a1 * b1) (a1 * b2) (a2 * b1) (a2 * b2) 4 / d) = true → okB (upI (MK (a1 * b1) (a1 * b2) (a2 * b1) (a2 * b2) 4) d) = true → ivE (spanW (mK (a1 * b1) (a1 * b2) (a2 * b1) (a2 * b2) 4 / d) (upI (MK (a1 * b1) (a1 * b2) (a2 * b1) (a2 * b2) 4) d)) = .tuple #[.agg #[.int .i64 (if okB (mK (a1 * b1) (a1 * b2) (a2 * b1) (a2 * b2) 4 / d) then mK (a1 * b1) (a1 * b2) (a2 * b1) (a2 * b2) 4 / d else 0), .int .i64 (if okB (upI (MK (a1 * b1) (a1 * b2) (a2 * b1) (a2 * b2) 4) d) then upI (MK (a1 * b1) (a1 * b2) (a2 * b1) (a2 * b2) 4) d else 0)], .int .i64 0] := fun h h' => by
    rw [spanW_ok h h', h, h']; rfl
  have hno : okB (mK (a1 * b1) (a1 * b2) (a2 * b1) (a2 * b2) 4 / d) = false ∨ okB (upI (MK (a1 * b1) (a1 * b2) (a2 * b1) (a2 * b2) 4) d) = false → ivE (spanW (mK (a1 * b1) (a1 * b2) (a2 * b1) (a2 * b2) 4 / d) (upI (MK (a1 * b1) (a1 * b2) (a2 * b1) (a2 * b2) 4) d)) = .tuple #[.agg #[.int .i64 0, .int .i64 0], .int .i64 7] := fun h => by
    unfold spanW
    rcases h with h | h <;> rw [h]
    · rfl
    · rw [Bool.and_false]; rfl
  have HFT := Lib.hid hft
  clear hres hft
  simp only at ha1 ha2 hb1 hb2
  clear ha1 ha2 hb1 hb2
  generalize a1 * b1 = p1 at *
  generalize a1 * b2 = p2 at *
  generalize a2 * b1 = p3 at *
  generalize a2 * b2 = p4 at *
  generalize hR0 : ivE (spanW (mK p1 p2 p3 p4 4 / d) (upI (MK p1 p2 p3 p4 4) d)) = R at *
  clear hR0
  have HYES := Lib.hid hyes
  have HNO := Lib.hid hno
  clear hyes hno
  have T1 := Lib.hid t1
  have T2 := Lib.hid t2
  have T3 := Lib.hid t3
  have T4 := Lib.hid t4
  clear t1 t2 t3 t4
  unfold ivV
  have F := Fm.of3 (w := w) (x := .int .i64 a1) (y := .int .i64 a2) (z := .int .i64 b1) (u := .int .i64 b2) (p := .int .i64 0) (q := .int .i64 0) (s := 55) (t := 55) (r := 55) (Below.refl _ _)
  go_enter Tryd.func192, Tryd.ntmps192
  go_wp2_with fail
  have SOF := Lib.hid (show ∀ w', Fm w [(w.heap.size, .int .i64 a1, .int .i64 a2), (w.heap.size + 1, .int .i64 b1, .int .i64 b2)] (w.heap.size + 1 + 1) w' → (fun w' => Fm w [(w.heap.size, .int .i64 a1, .int .i64 a2), (w.heap.size + 1, .int .i64 b1, .int .i64 b2)] (w.heap.size + 1 + 1) w' ∧ w'.cell? ⟨w.heap.size, 0, none⟩ = some (.int .i64 a1) ∧ w'.cell? ⟨w.heap.size, 1, none⟩ = some (.int .i64 a2) ∧ w'.cell? ⟨w.heap.size + 1, 0, none⟩ = some (.int .i64 b1) ∧ w'.cell? ⟨w.heap.size + 1, 1, none⟩ = some (.int .i64 b2)) w' from fun w' h => ⟨h, h.k0.c0, h.k0.c1, h.k1.c0, h.k1.c1⟩)
  simp only at SOF
  generalize (((w.alloc (.cells #[.int .i64 a1, .int .i64 a2] 55)).alloc (.cells #[.int .i64 b1, .int .i64 b2] 55)).alloc (.cells #[.int .i64 0, .int .i64 0] 55)) = w1 at *
  refine E_start (S := fun w' => Fm w [(w.heap.size, .int .i64 a1, .int .i64 a2), (w.heap.size + 1, .int .i64 b1, .int .i64 b2)] (w.heap.size + 1 + 1) w' ∧ w'.cell? ⟨w.heap.size, 0, none⟩ = some (.int .i64 a1) ∧ w'.cell? ⟨w.heap.size, 1, none⟩ = some (.int .i64 a2) ∧ w'.cell? ⟨w.heap.size + 1, 0, none⟩ = some (.int .i64 b1) ∧ w'.cell? ⟨w.heap.size + 1, 1, none⟩ = some (.int .i64 b2)) (by kernel_rfl) (SOF.out _ F.drew) ?_
  refine call_take (i := 0) (v := .pointer (some ⟨w.heap.size, 0, none⟩)) rfl (by kernel_rfl) (by kernel_rfl) (by kernel_rfl) (fun _ _ _ h => h) ⟨by rfl, .inr (fun w' hSw => by (try dsimp only at hSw); go_simp)⟩ ?_
  simp only [Act.put, List.setIfInBounds_toArray, List.set_cons_zero, List.set_cons_succ]
  refine call_take (i := 1) (v := .int .i64 a1) rfl (by kernel_rfl) (by kernel_rfl) (by kernel_rfl) (fun _ _ _ h => h) ⟨by rfl, .inr (fun w' hSw => by (try dsimp only at hSw); go_simp)⟩ ?_
  simp only [Act.put, List.setIfInBounds_toArray, List.set_cons_zero, List.set_cons_succ]
  refine call_take (i := 2) (v := .pointer (some ⟨w.heap.size + 1, 0, none⟩)) rfl (by kernel_rfl) (by kernel_rfl) (by kernel_rfl) (fun _ _ _ h => h) ⟨by rfl, .inr (fun w' hSw => by (try dsimp only at hSw); go_simp)⟩ ?_
  simp only [Act.put, List.setIfInBounds_toArray, List.set_cons_zero, List.set_cons_succ]
  refine call_take (i := 3) (v := .int .i64 b1) rfl (by kernel_rfl) (by kernel_rfl) (by kernel_rfl) (fun _ _ _ h => h) ⟨by rfl, .inr (fun w' hSw => by (try dsimp only at hSw); go_simp)⟩ ?_
  simp only [Act.put, List.setIfInBounds_toArray, List.set_cons_zero, List.set_cons_succ]
  refine call_take (i := 4) (v := .agg #[.int .i64 (hw p1), .int .u64 (lw p1)]) rfl (by kernel_rfl) (by kernel_rfl) (by kernel_rfl) (fun _ _ _ h => h) ⟨by rfl, .inl ⟨197, #[.int .i64 a1, .int .i64 b1], fun w' => by go_simp, fun w' hw => (T1.out w').mono fun e u ⟨h1, h2⟩ => ⟨h1, h2, SOF.out u (hw.1.later h2)⟩⟩⟩ ?_
  simp only [Act.put, List.setIfInBounds_toArray, List.set_cons_zero, List.set_cons_succ]
  refine call_take (i := 5) (v := .pointer (some ⟨w.heap.size, 0, none⟩)) rfl (by kernel_rfl) (by kernel_rfl) (by kernel_rfl) (fun _ _ _ h => h) ⟨by rfl, .inr (fun w' hSw => by (try dsimp only at hSw); go_simp)⟩ ?_
  simp only [Act.put, List.setIfInBounds_toArray, List.set_cons_zero, List.set_cons_succ]
  refine call_take (i := 6) (v := .int .i64 a1) rfl (by kernel_rfl) (by kernel_rfl) (by kernel_rfl) (fun _ _ _ h => h) ⟨by rfl, .inr (fun w' hSw => by (try dsimp only at hSw); go_simp)⟩ ?_
  simp only [Act.put, List.setIfInBounds_toArray, List.set_cons_zero, List.set_cons_succ]
  refine call_take (i := 7) (v := .pointer (some ⟨w.heap.size + 1, 1, none⟩)) rfl (by kernel_rfl) (by kernel_rfl) (by kernel_rfl) (fun _ _ _ h => h) ⟨by rfl, .inr (fun w' hSw => by (try dsimp only at hSw); go_simp)⟩ ?_
  simp only [Act.put, List.setIfInBounds_toArray, List.set_cons_zero, List.set_cons_succ]
  refine call_take (i := 8) (v := .int .i64 b2) rfl (by kernel_rfl) (by kernel_rfl) (by kernel_rfl) (fun _ _ _ h => h) ⟨by rfl, .inr (fun w' hSw => by (try dsimp only at hSw); go_simp)⟩ ?_
  simp only [Act.put, List.setIfInBounds_toArray, List.set_cons_zero, List.set_cons_succ]
  refine call_take (i := 9) (v := .agg #[.int .i64 (hw p2), .int .u64 (lw p2)]) rfl (by kernel_rfl) (by kernel_rfl) (by kernel_rfl) (fun _ _ _ h => h) ⟨by rfl, .inl ⟨197, #[.int .i64 a1, .int .i64 b2], fun w' => by go_simp, fun w' hw => (T2.out w').mono fun e u ⟨h1, h2⟩ => ⟨h1, h2, SOF.out u (hw.1.later h2)⟩⟩⟩ ?_
  simp only [Act.put, List.setIfInBounds_toArray, List.set_cons_zero, List.set_cons_succ]
  refine call_take (i := 10) (v := .pointer (some ⟨w.heap.size, 1, none⟩)) rfl (by kernel_rfl) (by kernel_rfl) (by kernel_rfl) (fun _ _ _ h => h) ⟨by rfl, .inr (fun w' hSw => by (try dsimp only at hSw); go_simp)⟩ ?_
  simp only [Act.put, List.setIfInBounds_toArray, List.set_cons_zero, List.set_cons_succ]
  refine call_take (i := 11) (v := .int .i64 a2) rfl (by kernel_rfl) (by kernel_rfl) (by kernel_rfl) (fun _ _ _ h => h) ⟨by rfl, .inr (fun w' hSw => by (try dsimp only at hSw); go_simp)⟩ ?_
  simp only [Act.put, List.setIfInBounds_toArray, List.set_cons_zero, List.set_cons_succ]
  refine call_take (i := 12) (v := .pointer (some ⟨w.heap.size + 1, 0, none⟩)) rfl (by kernel_rfl) (by kernel_rfl) (by kernel_rfl) (fun _ _ _ h => h) ⟨by rfl, .inr (fun w' hSw => by (try dsimp only at hSw); go_simp)⟩ ?_
  simp only [Act.put, List.setIfInBounds_toArray, List.set_cons_zero, List.set_cons_succ]
  refine call_take (i := 13) (v := .int .i64 b1) rfl (by kernel_rfl) (by kernel_rfl) (by kernel_rfl) (fun _ _ _ h => h) ⟨by rfl, .inr (fun w' hSw => by (try dsimp only at hSw); go_simp)⟩ ?_
  simp only [Act.put, List.setIfInBounds_toArray, List.set_cons_zero, List.set_cons_succ]
  refine call_take (i := 14) (v := .agg #[.int .i64 (hw p3), .int .u64 (lw p3)]) rfl (by kernel_rfl) (by kernel_rfl) (by kernel_rfl) (fun _ _ _ h => h) ⟨by rfl, .inl ⟨197, #[.int .i64 a2, .int .i64 b1], fun w' => by go_simp, fun w' hw => (T3.out w').mono fun e u ⟨h1, h2⟩ => ⟨h1, h2, SOF.out u (hw.1.later h2)⟩⟩⟩ ?_
  simp only [Act.put, List.setIfInBounds_toArray, List.set_cons_zero, List.set_cons_succ]
  refine call_take (i := 15) (v := .pointer (some ⟨w.heap.size, 1, none⟩)) rfl (by kernel_rfl) (by kernel_rfl) (by kernel_rfl) (fun _ _ _ h => h) ⟨by rfl, .inr (fun w' hSw => by (try dsimp only at hSw); go_simp)⟩ ?_
  simp only [Act.put, List.setIfInBounds_toArray, List.set_cons_zero, List.set_cons_succ]
  refine call_take (i := 16) (v := .int .i64 a2) rfl (by kernel_rfl) (by kernel_rfl) (by kernel_rfl) (fun _ _ _ h => h) ⟨by rfl, .inr (fun w' hSw => by (try dsimp only at hSw); go_simp)⟩ ?_
  simp only [Act.put, List.setIfInBounds_toArray, List.set_cons_zero, List.set_cons_succ]
  refine call_take (i := 17) (v := .pointer (some ⟨w.heap.size + 1, 1, none⟩)) rfl (by kernel_rfl) (by kernel_rfl) (by kernel_rfl) (fun _ _ _ h => h) ⟨by rfl, .inr (fun w' hSw => by (try dsimp only at hSw); go_simp)⟩ ?_
  simp only [Act.put, List.setIfInBounds_toArray, List.set_cons_zero, List.set_cons_succ]
  refine call_take (i := 18) (v := .int .i64 b2) rfl (by kernel_rfl) (by kernel_rfl) (by kernel_rfl) (fun _ _ _ h => h) ⟨by rfl, .inr (fun w' hSw => by (try dsimp only at hSw); go_simp)⟩ ?_
  simp only [Act.put, List.setIfInBounds_toArray, List.set_cons_zero, List.set_cons_succ]
  refine call_take (i := 19) (v := .agg #[.int .i64 (hw p4), .int .u64 (lw p4)]) rfl (by kernel_rfl) (by kernel_rfl) (by kernel_rfl) (fun _ _ _ h => h) ⟨by rfl, .inl ⟨197, #[.int .i64 a2, .int .i64 b2], fun w' => by go_simp, fun w' hw => (T4.out w').mono fun e u ⟨h1, h2⟩ => ⟨h1, h2, SOF.out u (hw.1.later h2)⟩⟩⟩ ?_
  simp only [Act.put, List.setIfInBounds_toArray, List.set_cons_zero, List.set_cons_succ]
  refine call_take (i := 20) (v := .agg #[.int .i64 (hw p1), .int .u64 (lw p1), .int .i64 (hw p2), .int .u64 (lw p2), .int .i64 (hw p3), .int .u64 (lw p3), .int .i64 (hw p4), .int .u64 (lw p4)]) rfl (by kernel_rfl) (by kernel_rfl) (by kernel_rfl) (fun _ _ _ h => h) ⟨by rfl, .inr (fun w' hSw => by (try dsimp only at hSw); go_simp)⟩ ?_
  simp only [Act.put, List.setIfInBounds_toArray, List.set_cons_zero, List.set_cons_succ]
  refine E_one (i := 21) rfl (by kernel_rfl) (fun w2 hx K hK => ?_)
  go_simp
  refine hK _ _ (SOF.out _ (hx.2.1.alloc _)) ?_
  clear hK K
  have hz := C8.new w2 (.int .i64 0) (.int .u64 0) 223
  have hlt : w.heap.size + 1 + 1 < w2.heap.size := by obtain ⟨p, q, hr⟩ := hx.2.1.res; exact hr.lt
  clear hx
  refine E_one (i := 22) rfl (by kernel_rfl) (fun w3 hx3 K hK => ?_)
  have hz3 := hz.later hx3.1
  have z0 := hz3.c 0 (by omega)
  have z1 := hz3.c 1 (by omega)
  have z2 := hz3.c 2 (by omega)
  have z3 := hz3.c 3 (by omega)
  have z4 := hz3.c 4 (by omega)
  have z5 := hz3.c 5 (by omega)
  have z6 := hz3.c 6 (by omega)
  have z7 := hz3.c 7 (by omega)
  have f0 := hz3.f 0 (by omega)
  have f1 := hz3.f 1 (by omega)
  have f2 := hz3.f 2 (by omega)
  have f3 := hz3.f 3 (by omega)
  have f4 := hz3.f 4 (by omega)
  have f5 := hz3.f 5 (by omega)
  have f6 := hz3.f 6 (by omega)
  have f7 := hz3.f 7 (by omega)
  generalize w2.heap.size = g at *
  go_simp
  have hg : ∀ t ∈ [(w.heap.size, (.int .i64 a1 : Value), (.int .i64 a2 : Value)), (w.heap.size + 1, .int .i64 b1, .int .i64 b2)], t.1 ≠ g := by
    intro t ht
    simp at ht
    rcases ht with rfl | rfl <;> simp only <;> omega
  refine hK _ _ (SOF.out _ ((((((((hx3.2.1.over hg hlt 0 _).over hg hlt 1 _).over hg hlt 2 _).over hg hlt 3 _).over hg hlt 4 _).over hg hlt 5 _).over hg hlt 6 _).over hg hlt 7 _)) ?_
  have hv := ((((((((hz3.set 0 (by omega) (.int .i64 (hw p1))).set 1 (by omega) (.int .u64 (lw p1))).set 2 (by omega) (.int .i64 (hw p2))).set 3 (by omega) (.int .u64 (lw p2))).set 4 (by omega) (.int .i64 (hw p3))).set 5 (by omega) (.int .u64 (lw p3))).set 6 (by omega) (.int .i64 (hw p4))).set 7 (by omega) (.int .u64 (lw p4)))
  clear hK K z0 z1 z2 z3 z4 z5 z6 z7 f0 f1 f2 f3 f4 f5 f6 f7 hz hz3 hx3 hg
  refine E_done (by kernel_rfl) (fun w5 hx5 => ?_) _
  have F5 := hx5.2.1
  have hv5 := hv.later hx5.1
  clear hx5 hv SOF T1 T2 T3 T4 F
  have hv6 : C8 w5 g (fun i => ([.int .i64 (hw p1), .int .u64 (lw p1), .int .i64 (hw p2), .int .u64 (lw p2), .int .i64 (hw p3), .int .u64 (lw p3), .int .i64 (hw p4), .int .u64 (lw p4)] : List Value).getD i undef) := ⟨fun i hi => by
    have := hv5.c i hi
    match i, hi with
    | 0, _ => simpa using this
    | 1, _ => simpa using this
    | 2, _ => simpa using this
    | 3, _ => simpa using this
    | 4, _ => simpa using this
    | 5, _ => simpa using this
    | 6, _ => simpa using this
    | 7, _ => simpa using this, hv5.f, hv5.lt⟩
  clear hv5
  have e0 := hv6.c 0 (by omega)
  have e1 := hv6.c 1 (by omega)
  simp only [List.getD_cons_zero, List.getD_cons_succ] at e0 e1
  have HV := Lib.hid hv6
  have HF := Lib.hid F5
  clear hv6 F5
  go_wp2_with fail
  rename_i Qe Ke hKe
  have H2 : ∀ (w6 : World) (g9 g10 : Nat), Fm w [(w.heap.size, .int .i64 a1, .int .i64 a2), (w.heap.size + 1, .int .i64 b1, .int .i64 b2)] (w.heap.size + 1 + 1) w6 → C8 w6 g (fun i => ([.int .i64 (hw p1), .int .u64 (lw p1), .int .i64 (hw p2), .int .u64 (lw p2), .int .i64 (hw p3), .int .u64 (lw p3), .int .i64 (hw p4), .int .u64 (lw p4)] : List Value).getD i undef) → Cell2 w6 g9 (.int .i64 (hw p1)) (.int .u64 (lw p1)) → Cell2 w6 g10 (.int .i64 (hw p1)) (.int .u64 (lw p1)) → g9 ≠ g10 → g < g9 → g < g10 →
      Exit.then Ke Qe .normal { tmps := #[Value.agg #[.int .i64 a1, .int .i64 a2], .agg #[.int .i64 b1, .int .i64 b2], .int .i64 d, .pointer (some ⟨w.heap.size, 0, none⟩), .pointer (some ⟨w.heap.size + 1, 0, none⟩), undef, .pointer (some ⟨w.heap.size + 1 + 1, 0, none⟩), .int .i64 0, .pointer (some ⟨g, 0, none⟩), .pointer (some ⟨g9, 0, none⟩), .pointer (some ⟨g10, 0, none⟩), undef, undef, undef, undef, undef, undef, .pointer (some ⟨w.heap.size, 0, none⟩), .int .i64 a1, .pointer (some ⟨w.heap.size + 1, 0, none⟩), .int .i64 b1, .agg #[.int .i64 (hw p1), .int .u64 (lw p1)], .pointer (some ⟨w.heap.size, 0, none⟩), .int .i64 a1, .pointer (some ⟨w.heap.size + 1, 1, none⟩), .int .i64 b2, .agg #[.int .i64 (hw p2), .int .u64 (lw p2)], .pointer (some ⟨w.heap.size, 1, none⟩), .int .i64 a2, .pointer (some ⟨w.heap.size + 1, 0, none⟩), .int .i64 b1, .agg #[.int .i64 (hw p3), .int .u64 (lw p3)], .pointer (some ⟨w.heap.size, 1, none⟩), .int .i64 a2, .pointer (some ⟨w.heap.size + 1, 1, none⟩), .int .i64 b2, .agg #[.int .i64 (hw p4), .int .u64 (lw p4)], .agg #[.int .i64 (hw p1), .int .u64 (lw p1), .int .i64 (hw p2), .int .u64 (lw p2), .int .i64 (hw p3), .int .u64 (lw p3), .int .i64 (hw p4), .int .u64 (lw p4)], .pointer (some ⟨g, 0, none⟩), .agg #[.int .i64 (hw p1), .int .u64 (lw p1)], .pointer (some ⟨g, 0, none⟩), .agg #[.int .i64 (hw p1), .int .u64 (lw p1)], undef, undef, undef, undef, undef, undef, undef, undef, undef, undef, undef, undef, undef, undef, undef, undef, undef, undef, undef, undef, undef, undef, undef, undef, undef, undef, undef, undef, undef, undef, undef, undef, undef, undef, undef, undef, undef], defers := [] } w6 := by
    intro w6 g9 g10 hF hC h9 h10 hne hg9 hg10
    have h9r : w.heap.size + 1 + 1 < g9 := by omega
    have h10r : w.heap.size + 1 + 1 < g10 := by omega
    have hK9 : ∀ t ∈ [(w.heap.size, (.int .i64 a1 : Value), (.int .i64 a2 : Value)), (w.heap.size + 1, .int .i64 b1, .int .i64 b2)], t.1 ≠ g9 := by
      intro t ht
      simp at ht
      rcases ht with rfl | rfl <;> simp only <;> omega
    have hK10 : ∀ t ∈ [(w.heap.size, (.int .i64 a1 : Value), (.int .i64 a2 : Value)), (w.heap.size + 1, .int .i64 b1, .int .i64 b2)], t.1 ≠ g10 := by
      intro t ht
      simp at ht
      rcases ht with rfl | rfl <;> simp only <;> omega
    have z0 := hC.c 0 (by omega)
    have z1 := hC.c 1 (by omega)
    have z2 := hC.c 2 (by omega)
    have z3 := hC.c 3 (by omega)
    have z4 := hC.c 4 (by omega)
    have z5 := hC.c 5 (by omega)
    have z6 := hC.c 6 (by omega)
    have z7 := hC.c 7 (by omega)
    simp only [List.getD_cons_zero, List.getD_cons_succ] at z0 z1 z2 z3 z4 z5 z6 z7
    have HF6 := Lib.hid hF
    have H9 := Lib.hid h9
    have H10 := Lib.hid h10
    clear e0 e1 HV HF hF h9 h10 hC
    go_wp2_with fail
    clear z0 z1 z2 z3 z4 z5 z6 z7
    go_loopw [43] (fun i wr => ∃ k : Nat, k ≤ 4 ∧ i = .int .i64 (k : Int) ∧ Fm w [(w.heap.size, .int .i64 a1, .int .i64 a2), (w.heap.size + 1, .int .i64 b1, .int .i64 b2)] (w.heap.size + 1 + 1) wr ∧ Cell2 wr g9 (.int .i64 (hw (mK p1 p2 p3 p4 k))) (.int .u64 (lw (mK p1 p2 p3 p4 k))) ∧ Cell2 wr g10 (.int .i64 (hw (MK p1 p2 p3 p4 k))) (.int .u64 (lw (MK p1 p2 p3 p4 k)))) (fun i _ => 4 - (intOf i).toNat)
    case atStart => exact ⟨0, by omega, rfl, HF6.out, H9.out, H10.out⟩
    case round =>
      clear HF6 H9 H10
      obtain ⟨k, hk, rfl, hF, h9, h10⟩ := hrel
      have hkk : k = 0 ∨ k = 1 ∨ k = 2 ∨ k = 3 ∨ k = 4 := by omega
      rcases hkk with rfl | rfl | rfl | rfl | rfl
      · have hp0 : mK p1 p2 p3 p4 1 = if p1 < mK p1 p2 p3 p4 0 then p1 else mK p1 p2 p3 p4 0 := rfl
        have hP0 : MK p1 p2 p3 p4 1 = if MK p1 p2 p3 p4 0 < p1 then p1 else MK p1 p2 p3 p4 0 := rfl
        have hp := Lib.hid hp0
        have hP := Lib.hid hP0
        clear hp0 hP0
        generalize mK p1 p2 p3 p4 0 = m at *
        generalize MK p1 p2 p3 p4 0 = M at *
        have hc := Cell2.new wr (.int .i64 (hw p1)) (.int .u64 (lw p1)) 221
        have h9a := h9.alloc (.cells #[.int .i64 (hw p1), .int .u64 (lw p1)] 221)
        have h10a := h10.alloc (.cells #[.int .i64 (hw p1), .int .u64 (lw p1)] 221)
        have hFa := hF.alloc (.cells #[.int .i64 (hw p1), .int .u64 (lw p1)] 221)
        have n9 : g9 ≠ wr.heap.size := Nat.ne_of_lt h9.lt
        have n10 : g10 ≠ wr.heap.size := Nat.ne_of_lt h10.lt
        have nr : w.heap.size + 1 + 1 < wr.heap.size := by obtain ⟨p, q, hr⟩ := hF.res; exact hr.lt
        have k0 := h9a.c0
        have k1 := h9a.c1
        have hix := idx0 (.int .i64 (hw p1)) (.int .u64 (lw p1)) (.int .i64 (hw p2)) (.int .u64 (lw p2)) (.int .i64 (hw p3)) (.int .u64 (lw p3)) (.int .i64 (hw p4)) (.int .u64 (lw p4))
        clear hF h9 h10
        go_wp2_with fail
        clear hix
        refine (PB.out p1 m _).mono ?_
        rintro e w7 ⟨he, hb⟩
        subst he
        have hc7 := hc.later hb
        have h97 := h9a.later hb
        have h107 := h10a.later hb
        have hF7 := hFa.later hb
        clear hc h9a h10a hFa k0 k1 hb
        generalize wr.heap.size = gc at *
        by_cases c1 : p1 < m
        · have d1 : decide (p1 < m) = true := decide_eq_true c1
          have k0 := hc7.c0
          have k1 := hc7.c1
          have k2 := h97.c0
          have k3 := h97.c1
          have f2 := h97.f0
          have f3 := h97.f1
          have h108 := (h107.setOther (Ne.symm hne) 0 (.int .i64 (hw p1))).setOther (Ne.symm hne) 1 (.int .u64 (lw p1))
          have hc8 := (hc7.setOther (Ne.symm n9) 0 (.int .i64 (hw p1))).setOther (Ne.symm n9) 1 (.int .u64 (lw p1))
          have h98 := h97.set (.int .i64 (hw p1)) (.int .u64 (lw p1))
          have hF8 := (hF7.over hK9 h9r 0 (.int .i64 (hw p1))).over hK9 h9r 1 (.int .u64 (lw p1))
          have k4 := h108.c0
          have k5 := h108.c1
          have k6 := hc8.c0
          have k7 := hc8.c1
          have em := Lib.hid (hp.out.trans (if_pos c1))
          clear hp hc7 h97 h107 hF7
          go_wp2_with fail
          refine (PB.out M p1 _).mono ?_
          rintro e w9 ⟨he, hb⟩
          subst he
          have hc9 := hc8.later hb
          have h99 := h98.later hb
          have h109 := h108.later hb
          have hF9 := hF8.later hb
          clear h98 h108 hc8 hF8 k4 k5 k6 k7 hb
          by_cases c2 : M < p1
          · have d2 : decide (M < p1) = true := decide_eq_true c2
            have k0 := hc9.c0
            have k1 := hc9.c1
            have k2 := h109.c0
            have k3 := h109.c1
            have f2 := h109.f0
            have f3 := h109.f1
            have hx9 := (h99.setOther hne 0 (.int .i64 (hw p1))).setOther hne 1 (.int .u64 (lw p1))
            have hx10 := h109.set (.int .i64 (hw p1)) (.int .u64 (lw p1))
            have hxF := (hF9.over hK10 h10r 0 (.int .i64 (hw p1))).over hK10 h10r 1 (.int .u64 (lw p1))
            have eM := Lib.hid (hP.out.trans (if_pos c2))
            clear hP hc9 h99 h109 hF9
            go_wp2_with fail
            first
              | exact ⟨⟨1, by omega, rfl, hxF, by rw [em.out]; exact hx9, by rw [eM.out]; exact hx10⟩, by simp [intOf]; omega⟩
              | (go_roundw
                 case rel => exact ⟨1, by omega, rfl, hxF, by rw [em.out]; exact hx9, by rw [eM.out]; exact hx10⟩
                 case measure => simp [intOf])
          · have d2 : decide (M < p1) = false := decide_eq_false c2
            have eM := Lib.hid (hP.out.trans (if_neg c2))
            clear hP
            go_wp2_with fail
            first
              | exact ⟨⟨1, by omega, rfl, hF9, by rw [em.out]; exact h99, by rw [eM.out]; exact h109⟩, by simp [intOf]; omega⟩
              | (go_roundw
                 case rel => exact ⟨1, by omega, rfl, hF9, by rw [em.out]; exact h99, by rw [eM.out]; exact h109⟩
                 case measure => simp [intOf])
        · have d1 : decide (p1 < m) = false := decide_eq_false c1
          have em := Lib.hid (hp.out.trans (if_neg c1))
          have k4 := h107.c0
          have k5 := h107.c1
          have k6 := hc7.c0
          have k7 := hc7.c1
          clear hp
          go_wp2_with fail
          refine (PB.out M p1 _).mono ?_
          rintro e w9 ⟨he, hb⟩
          subst he
          have hc9 := hc7.later hb
          have h99 := h97.later hb
          have h109 := h107.later hb
          have hF9 := hF7.later hb
          clear h97 h107 hc7 hF7 k4 k5 k6 k7 hb
          by_cases c2 : M < p1
          · have d2 : decide (M < p1) = true := decide_eq_true c2
            have k0 := hc9.c0
            have k1 := hc9.c1
            have k2 := h109.c0
            have k3 := h109.c1
            have f2 := h109.f0
            have f3 := h109.f1
            have hx9 := (h99.setOther hne 0 (.int .i64 (hw p1))).setOther hne 1 (.int .u64 (lw p1))
            have hx10 := h109.set (.int .i64 (hw p1)) (.int .u64 (lw p1))
            have hxF := (hF9.over hK10 h10r 0 (.int .i64 (hw p1))).over hK10 h10r 1 (.int .u64 (lw p1))
            have eM := Lib.hid (hP.out.trans (if_pos c2))
            clear hP hc9 h99 h109 hF9
            go_wp2_with fail
            first
              | exact ⟨⟨1, by omega, rfl, hxF, by rw [em.out]; exact hx9, by rw [eM.out]; exact hx10⟩, by simp [intOf]; omega⟩
              | (go_roundw
                 case rel => exact ⟨1, by omega, rfl, hxF, by rw [em.out]; exact hx9, by rw [eM.out]; exact hx10⟩
                 case measure => simp [intOf])
          · have d2 : decide (M < p1) = false := decide_eq_false c2
            have eM := Lib.hid (hP.out.trans (if_neg c2))
            clear hP
            go_wp2_with fail
            first
              | exact ⟨⟨1, by omega, rfl, hF9, by rw [em.out]; exact h99, by rw [eM.out]; exact h109⟩, by simp [intOf]; omega⟩
              | (go_roundw
                 case rel => exact ⟨1, by omega, rfl, hF9, by rw [em.out]; exact h99, by rw [eM.out]; exact h109⟩
                 case measure => simp [intOf])
      · have hp0 : mK p1 p2 p3 p4 2 = if p2 < mK p1 p2 p3 p4 1 then p2 else mK p1 p2 p3 p4 1 := rfl
        have hP0 : MK p1 p2 p3 p4 2 = if MK p1 p2 p3 p4 1 < p2 then p2 else MK p1 p2 p3 p4 1 := rfl
        have hp := Lib.hid hp0
        have hP := Lib.hid hP0
        clear hp0 hP0
        generalize mK p1 p2 p3 p4 1 = m at *
        generalize MK p1 p2 p3 p4 1 = M at *
        have hc := Cell2.new wr (.int .i64 (hw p2)) (.int .u64 (lw p2)) 221
        have h9a := h9.alloc (.cells #[.int .i64 (hw p2), .int .u64 (lw p2)] 221)
        have h10a := h10.alloc (.cells #[.int .i64 (hw p2), .int .u64 (lw p2)] 221)
        have hFa := hF.alloc (.cells #[.int .i64 (hw p2), .int .u64 (lw p2)] 221)
        have n9 : g9 ≠ wr.heap.size := Nat.ne_of_lt h9.lt
        have n10 : g10 ≠ wr.heap.size := Nat.ne_of_lt h10.lt
        have nr : w.heap.size + 1 + 1 < wr.heap.size := by obtain ⟨p, q, hr⟩ := hF.res; exact hr.lt
        have k0 := h9a.c0
        have k1 := h9a.c1
        have hix := idx1 (.int .i64 (hw p1)) (.int .u64 (lw p1)) (.int .i64 (hw p2)) (.int .u64 (lw p2)) (.int .i64 (hw p3)) (.int .u64 (lw p3)) (.int .i64 (hw p4)) (.int .u64 (lw p4))
        clear hF h9 h10
        go_wp2_with fail
        clear hix
        refine (PB.out p2 m _).mono ?_
        rintro e w7 ⟨he, hb⟩
        subst he
        have hc7 := hc.later hb
        have h97 := h9a.later hb
        have h107 := h10a.later hb
        have hF7 := hFa.later hb
        clear hc h9a h10a hFa k0 k1 hb
        generalize wr.heap.size = gc at *
        by_cases c1 : p2 < m
        · have d1 : decide (p2 < m) = true := decide_eq_true c1
          have k0 := hc7.c0
          have k1 := hc7.c1
          have k2 := h97.c0
          have k3 := h97.c1
          have f2 := h97.f0
          have f3 := h97.f1
          have h108 := (h107.setOther (Ne.symm hne) 0 (.int .i64 (hw p2))).setOther (Ne.symm hne) 1 (.int .u64 (lw p2))
          have hc8 := (hc7.setOther (Ne.symm n9) 0 (.int .i64 (hw p2))).setOther (Ne.symm n9) 1 (.int .u64 (lw p2))
          have h98 := h97.set (.int .i64 (hw p2)) (.int .u64 (lw p2))
          have hF8 := (hF7.over hK9 h9r 0 (.int .i64 (hw p2))).over hK9 h9r 1 (.int .u64 (lw p2))
          have k4 := h108.c0
          have k5 := h108.c1
          have k6 := hc8.c0
          have k7 := hc8.c1
          have em := Lib.hid (hp.out.trans (if_pos c1))
          clear hp hc7 h97 h107 hF7
          go_wp2_with fail
          refine (PB.out M p2 _).mono ?_
          rintro e w9 ⟨he, hb⟩
          subst he
          have hc9 := hc8.later hb
          have h99 := h98.later hb
          have h109 := h108.later hb
          have hF9 := hF8.later hb
          clear h98 h108 hc8 hF8 k4 k5 k6 k7 hb
          by_cases c2 : M < p2
          · have d2 : decide (M < p2) = true := decide_eq_true c2
            have k0 := hc9.c0
            have k1 := hc9.c1
            have k2 := h109.c0
            have k3 := h109.c1
            have f2 := h109.f0
            have f3 := h109.f1
            have hx9 := (h99.setOther hne 0 (.int .i64 (hw p2))).setOther hne 1 (.int .u64 (lw p2))
            have hx10 := h109.set (.int .i64 (hw p2)) (.int .u64 (lw p2))
            have hxF := (hF9.over hK10 h10r 0 (.int .i64 (hw p2))).over hK10 h10r 1 (.int .u64 (lw p2))
            have eM := Lib.hid (hP.out.trans (if_pos c2))
            clear hP hc9 h99 h109 hF9
            go_wp2_with fail
            first
              | exact ⟨⟨2, by omega, rfl, hxF, by rw [em.out]; exact hx9, by rw [eM.out]; exact hx10⟩, by simp [intOf]; omega⟩
              | (go_roundw
                 case rel => exact ⟨2, by omega, rfl, hxF, by rw [em.out]; exact hx9, by rw [eM.out]; exact hx10⟩
                 case measure => simp [intOf])
          · have d2 : decide (M < p2) = false := decide_eq_false c2
            have eM := Lib.hid (hP.out.trans (if_neg c2))
            clear hP
            go_wp2_with fail
            first
              | exact ⟨⟨2, by omega, rfl, hF9, by rw [em.out]; exact h99, by rw [eM.out]; exact h109⟩, by simp [intOf]; omega⟩
              | (go_roundw
                 case rel => exact ⟨2, by omega, rfl, hF9, by rw [em.out]; exact h99, by rw [eM.out]; exact h109⟩
                 case measure => simp [intOf])
        · have d1 : decide (p2 < m) = false := decide_eq_false c1
          have em := Lib.hid (hp.out.trans (if_neg c1))
          have k4 := h107.c0
          have k5 := h107.c1
          have k6 := hc7.c0
          have k7 := hc7.c1
          clear hp
          go_wp2_with fail
          refine (PB.out M p2 _).mono ?_
          rintro e w9 ⟨he, hb⟩
          subst he
          have hc9 := hc7.later hb
          have h99 := h97.later hb
          have h109 := h107.later hb
          have hF9 := hF7.later hb
          clear h97 h107 hc7 hF7 k4 k5 k6 k7 hb
          by_cases c2 : M < p2
          · have d2 : decide (M < p2) = true := decide_eq_true c2
            have k0 := hc9.c0
            have k1 := hc9.c1
            have k2 := h109.c0
            have k3 := h109.c1
            have f2 := h109.f0
            have f3 := h109.f1
            have hx9 := (h99.setOther hne 0 (.int .i64 (hw p2))).setOther hne 1 (.int .u64 (lw p2))
            have hx10 := h109.set (.int .i64 (hw p2)) (.int .u64 (lw p2))
            have hxF := (hF9.over hK10 h10r 0 (.int .i64 (hw p2))).over hK10 h10r 1 (.int .u64 (lw p2))
            have eM := Lib.hid (hP.out.trans (if_pos c2))
            clear hP hc9 h99 h109 hF9
            go_wp2_with fail
            first
              | exact ⟨⟨2, by omega, rfl, hxF, by rw [em.out]; exact hx9, by rw [eM.out]; exact hx10⟩, by simp [intOf]; omega⟩
              | (go_roundw
                 case rel => exact ⟨2, by omega, rfl, hxF, by rw [em.out]; exact hx9, by rw [eM.out]; exact hx10⟩
                 case measure => simp [intOf])
          · have d2 : decide (M < p2) = false := decide_eq_false c2
            have eM := Lib.hid (hP.out.trans (if_neg c2))
            clear hP
            go_wp2_with fail
            first
              | exact ⟨⟨2, by omega, rfl, hF9, by rw [em.out]; exact h99, by rw [eM.out]; exact h109⟩, by simp [intOf]; omega⟩
              | (go_roundw
                 case rel => exact ⟨2, by omega, rfl, hF9, by rw [em.out]; exact h99, by rw [eM.out]; exact h109⟩
                 case measure => simp [intOf])
      · have hp0 : mK p1 p2 p3 p4 3 = if p3 < mK p1 p2 p3 p4 2 then p3 else mK p1 p2 p3 p4 2 := rfl
        have hP0 : MK p1 p2 p3 p4 3 = if MK p1 p2 p3 p4 2 < p3 then p3 else MK p1 p2 p3 p4 2 := rfl
        have hp := Lib.hid hp0
        have hP := Lib.hid hP0
        clear hp0 hP0
        generalize mK p1 p2 p3 p4 2 = m at *
        generalize MK p1 p2 p3 p4 2 = M at *
        have hc := Cell2.new wr (.int .i64 (hw p3)) (.int .u64 (lw p3)) 221
        have h9a := h9.alloc (.cells #[.int .i64 (hw p3), .int .u64 (lw p3)] 221)
        have h10a := h10.alloc (.cells #[.int .i64 (hw p3), .int .u64 (lw p3)] 221)
        have hFa := hF.alloc (.cells #[.int .i64 (hw p3), .int .u64 (lw p3)] 221)
        have n9 : g9 ≠ wr.heap.size := Nat.ne_of_lt h9.lt
        have n10 : g10 ≠ wr.heap.size := Nat.ne_of_lt h10.lt
        have nr : w.heap.size + 1 + 1 < wr.heap.size := by obtain ⟨p, q, hr⟩ := hF.res; exact hr.lt
        have k0 := h9a.c0
        have k1 := h9a.c1
        have hix := idx2 (.int .i64 (hw p1)) (.int .u64 (lw p1)) (.int .i64 (hw p2)) (.int .u64 (lw p2)) (.int .i64 (hw p3)) (.int .u64 (lw p3)) (.int .i64 (hw p4)) (.int .u64 (lw p4))
        clear hF h9 h10
        go_wp2_with fail
        clear hix
        refine (PB.out p3 m _).mono ?_
        rintro e w7 ⟨he, hb⟩
        subst he
        have hc7 := hc.later hb
        have h97 := h9a.later hb
        have h107 := h10a.later hb
        have hF7 := hFa.later hb
        clear hc h9a h10a hFa k0 k1 hb
        generalize wr.heap.size = gc at *
        by_cases c1 : p3 < m
        · have d1 : decide (p3 < m) = true := decide_eq_true c1
          have k0 := hc7.c0
          have k1 := hc7.c1
          have k2 := h97.c0
          have k3 := h97.c1
          have f2 := h97.f0
          have f3 := h97.f1
          have h108 := (h107.setOther (Ne.symm hne) 0 (.int .i64 (hw p3))).setOther (Ne.symm hne) 1 (.int .u64 (lw p3))
          have hc8 := (hc7.setOther (Ne.symm n9) 0 (.int .i64 (hw p3))).setOther (Ne.symm n9) 1 (.int .u64 (lw p3))
          have h98 := h97.set (.int .i64 (hw p3)) (.int .u64 (lw p3))
          have hF8 := (hF7.over hK9 h9r 0 (.int .i64 (hw p3))).over hK9 h9r 1 (.int .u64 (lw p3))
          have k4 := h108.c0
          have k5 := h108.c1
          have k6 := hc8.c0
          have k7 := hc8.c1
          have em := Lib.hid (hp.out.trans (if_pos c1))
          clear hp hc7 h97 h107 hF7
          go_wp2_with fail
          refine (PB.out M p3 _).mono ?_
          rintro e w9 ⟨he, hb⟩
          subst he
          have hc9 := hc8.later hb
          have h99 := h98.later hb
          have h109 := h108.later hb
          have hF9 := hF8.later hb
          clear h98 h108 hc8 hF8 k4 k5 k6 k7 hb
          by_cases c2 : M < p3
          · have d2 : decide (M < p3) = true := decide_eq_true c2
            have k0 := hc9.c0
            have k1 := hc9.c1
            have k2 := h109.c0
            have k3 := h109.c1
            have f2 := h109.f0
            have f3 := h109.f1
            have hx9 := (h99.setOther hne 0 (.int .i64 (hw p3))).setOther hne 1 (.int .u64 (lw p3))
            have hx10 := h109.set (.int .i64 (hw p3)) (.int .u64 (lw p3))
            have hxF := (hF9.over hK10 h10r 0 (.int .i64 (hw p3))).over hK10 h10r 1 (.int .u64 (lw p3))
            have eM := Lib.hid (hP.out.trans (if_pos c2))
            clear hP hc9 h99 h109 hF9
            go_wp2_with fail
            first
              | exact ⟨⟨3, by omega, rfl, hxF, by rw [em.out]; exact hx9, by rw [eM.out]; exact hx10⟩, by simp [intOf]; omega⟩
              | (go_roundw
                 case rel => exact ⟨3, by omega, rfl, hxF, by rw [em.out]; exact hx9, by rw [eM.out]; exact hx10⟩
                 case measure => simp [intOf])
          · have d2 : decide (M < p3) = false := decide_eq_false c2
            have eM := Lib.hid (hP.out.trans (if_neg c2))
            clear hP
            go_wp2_with fail
            first
              | exact ⟨⟨3, by omega, rfl, hF9, by rw [em.out]; exact h99, by rw [eM.out]; exact h109⟩, by simp [intOf]; omega⟩
              | (go_roundw
                 case rel => exact ⟨3, by omega, rfl, hF9, by rw [em.out]; exact h99, by rw [eM.out]; exact h109⟩
                 case measure => simp [intOf])
        · have d1 : decide (p3 < m) = false := decide_eq_false c1
          have em := Lib.hid (hp.out.trans (if_neg c1))
          have k4 := h107.c0
          have k5 := h107.c1
          have k6 := hc7.c0
          have k7 := hc7.c1
          clear hp
          go_wp2_with fail
          refine (PB.out M p3 _).mono ?_
          rintro e w9 ⟨he, hb⟩
          subst he
          have hc9 := hc7.later hb
          have h99 := h97.later hb
          have h109 := h107.later hb
          have hF9 := hF7.later hb
          clear h97 h107 hc7 hF7 k4 k5 k6 k7 hb
          by_cases c2 : M < p3
          · have d2 : decide (M < p3) = true := decide_eq_true c2
            have k0 := hc9.c0
            have k1 := hc9.c1
            have k2 := h109.c0
            have k3 := h109.c1
            have f2 := h109.f0
            have f3 := h109.f1
            have hx9 := (h99.setOther hne 0 (.int .i64 (hw p3))).setOther hne 1 (.int .u64 (lw p3))
            have hx10 := h109.set (.int .i64 (hw p3)) (.int .u64 (lw p3))
            have hxF := (hF9.over hK10 h10r 0 (.int .i64 (hw p3))).over hK10 h10r 1 (.int .u64 (lw p3))
            have eM := Lib.hid (hP.out.trans (if_pos c2))
            clear hP hc9 h99 h109 hF9
            go_wp2_with fail
            first
              | exact ⟨⟨3, by omega, rfl, hxF, by rw [em.out]; exact hx9, by rw [eM.out]; exact hx10⟩, by simp [intOf]; omega⟩
              | (go_roundw
                 case rel => exact ⟨3, by omega, rfl, hxF, by rw [em.out]; exact hx9, by rw [eM.out]; exact hx10⟩
                 case measure => simp [intOf])
          · have d2 : decide (M < p3) = false := decide_eq_false c2
            have eM := Lib.hid (hP.out.trans (if_neg c2))
            clear hP
            go_wp2_with fail
            first
              | exact ⟨⟨3, by omega, rfl, hF9, by rw [em.out]; exact h99, by rw [eM.out]; exact h109⟩, by simp [intOf]; omega⟩
              | (go_roundw
                 case rel => exact ⟨3, by omega, rfl, hF9, by rw [em.out]; exact h99, by rw [eM.out]; exact h109⟩
                 case measure => simp [intOf])
      · have hp0 : mK p1 p2 p3 p4 4 = if p4 < mK p1 p2 p3 p4 3 then p4 else mK p1 p2 p3 p4 3 := rfl
        have hP0 : MK p1 p2 p3 p4 4 = if MK p1 p2 p3 p4 3 < p4 then p4 else MK p1 p2 p3 p4 3 := rfl
        have hp := Lib.hid hp0
        have hP := Lib.hid hP0
        clear hp0 hP0
        generalize mK p1 p2 p3 p4 3 = m at *
        generalize MK p1 p2 p3 p4 3 = M at *
        have hc := Cell2.new wr (.int .i64 (hw p4)) (.int .u64 (lw p4)) 221
        have h9a := h9.alloc (.cells #[.int .i64 (hw p4), .int .u64 (lw p4)] 221)
        have h10a := h10.alloc (.cells #[.int .i64 (hw p4), .int .u64 (lw p4)] 221)
        have hFa := hF.alloc (.cells #[.int .i64 (hw p4), .int .u64 (lw p4)] 221)
        have n9 : g9 ≠ wr.heap.size := Nat.ne_of_lt h9.lt
        have n10 : g10 ≠ wr.heap.size := Nat.ne_of_lt h10.lt
        have nr : w.heap.size + 1 + 1 < wr.heap.size := by obtain ⟨p, q, hr⟩ := hF.res; exact hr.lt
        have k0 := h9a.c0
        have k1 := h9a.c1
        have hix := idx3 (.int .i64 (hw p1)) (.int .u64 (lw p1)) (.int .i64 (hw p2)) (.int .u64 (lw p2)) (.int .i64 (hw p3)) (.int .u64 (lw p3)) (.int .i64 (hw p4)) (.int .u64 (lw p4))
        clear hF h9 h10
        go_wp2_with fail
        clear hix
        refine (PB.out p4 m _).mono ?_
        rintro e w7 ⟨he, hb⟩
        subst he
        have hc7 := hc.later hb
        have h97 := h9a.later hb
        have h107 := h10a.later hb
        have hF7 := hFa.later hb
        clear hc h9a h10a hFa k0 k1 hb
        generalize wr.heap.size = gc at *
        by_cases c1 : p4 < m
        · have d1 : decide (p4 < m) = true := decide_eq_true c1
          have k0 := hc7.c0
          have k1 := hc7.c1
          have k2 := h97.c0
          have k3 := h97.c1
          have f2 := h97.f0
          have f3 := h97.f1
          have h108 := (h107.setOther (Ne.symm hne) 0 (.int .i64 (hw p4))).setOther (Ne.symm hne) 1 (.int .u64 (lw p4))
          have hc8 := (hc7.setOther (Ne.symm n9) 0 (.int .i64 (hw p4))).setOther (Ne.symm n9) 1 (.int .u64 (lw p4))
          have h98 := h97.set (.int .i64 (hw p4)) (.int .u64 (lw p4))
          have hF8 := (hF7.over hK9 h9r 0 (.int .i64 (hw p4))).over hK9 h9r 1 (.int .u64 (lw p4))
          have k4 := h108.c0
          have k5 := h108.c1
          have k6 := hc8.c0
          have k7 := hc8.c1
          have em := Lib.hid (hp.out.trans (if_pos c1))
          clear hp hc7 h97 h107 hF7
          go_wp2_with fail
          refine (PB.out M p4 _).mono ?_
          rintro e w9 ⟨he, hb⟩
          subst he
          have hc9 := hc8.later hb
          have h99 := h98.later hb
          have h109 := h108.later hb
          have hF9 := hF8.later hb
          clear h98 h108 hc8 hF8 k4 k5 k6 k7 hb
          by_cases c2 : M < p4
          · have d2 : decide (M < p4) = true := decide_eq_true c2
            have k0 := hc9.c0
            have k1 := hc9.c1
            have k2 := h109.c0
            have k3 := h109.c1
            have f2 := h109.f0
            have f3 := h109.f1
            have hx9 := (h99.setOther hne 0 (.int .i64 (hw p4))).setOther hne 1 (.int .u64 (lw p4))
            have hx10 := h109.set (.int .i64 (hw p4)) (.int .u64 (lw p4))
            have hxF := (hF9.over hK10 h10r 0 (.int .i64 (hw p4))).over hK10 h10r 1 (.int .u64 (lw p4))
            have eM := Lib.hid (hP.out.trans (if_pos c2))
            clear hP hc9 h99 h109 hF9
            go_wp2_with fail
            first
              | exact ⟨⟨4, by omega, rfl, hxF, by rw [em.out]; exact hx9, by rw [eM.out]; exact hx10⟩, by simp [intOf]; omega⟩
              | (go_roundw
                 case rel => exact ⟨4, by omega, rfl, hxF, by rw [em.out]; exact hx9, by rw [eM.out]; exact hx10⟩
                 case measure => simp [intOf])
          · have d2 : decide (M < p4) = false := decide_eq_false c2
            have eM := Lib.hid (hP.out.trans (if_neg c2))
            clear hP
            go_wp2_with fail
            first
              | exact ⟨⟨4, by omega, rfl, hF9, by rw [em.out]; exact h99, by rw [eM.out]; exact h109⟩, by simp [intOf]; omega⟩
              | (go_roundw
                 case rel => exact ⟨4, by omega, rfl, hF9, by rw [em.out]; exact h99, by rw [eM.out]; exact h109⟩
                 case measure => simp [intOf])
        · have d1 : decide (p4 < m) = false := decide_eq_false c1
          have em := Lib.hid (hp.out.trans (if_neg c1))
          have k4 := h107.c0
          have k5 := h107.c1
          have k6 := hc7.c0
          have k7 := hc7.c1
          clear hp
          go_wp2_with fail
          refine (PB.out M p4 _).mono ?_
          rintro e w9 ⟨he, hb⟩
          subst he
          have hc9 := hc7.later hb
          have h99 := h97.later hb
          have h109 := h107.later hb
          have hF9 := hF7.later hb
          clear h97 h107 hc7 hF7 k4 k5 k6 k7 hb
          by_cases c2 : M < p4
          · have d2 : decide (M < p4) = true := decide_eq_true c2
            have k0 := hc9.c0
            have k1 := hc9.c1
            have k2 := h109.c0
            have k3 := h109.c1
            have f2 := h109.f0
            have f3 := h109.f1
            have hx9 := (h99.setOther hne 0 (.int .i64 (hw p4))).setOther hne 1 (.int .u64 (lw p4))
            have hx10 := h109.set (.int .i64 (hw p4)) (.int .u64 (lw p4))
            have hxF := (hF9.over hK10 h10r 0 (.int .i64 (hw p4))).over hK10 h10r 1 (.int .u64 (lw p4))
            have eM := Lib.hid (hP.out.trans (if_pos c2))
            clear hP hc9 h99 h109 hF9
            go_wp2_with fail
            first
              | exact ⟨⟨4, by omega, rfl, hxF, by rw [em.out]; exact hx9, by rw [eM.out]; exact hx10⟩, by simp [intOf]; omega⟩
              | (go_roundw
                 case rel => exact ⟨4, by omega, rfl, hxF, by rw [em.out]; exact hx9, by rw [eM.out]; exact hx10⟩
                 case measure => simp [intOf])
          · have d2 : decide (M < p4) = false := decide_eq_false c2
            have eM := Lib.hid (hP.out.trans (if_neg c2))
            clear hP
            go_wp2_with fail
            first
              | exact ⟨⟨4, by omega, rfl, hF9, by rw [em.out]; exact h99, by rw [eM.out]; exact h109⟩, by simp [intOf]; omega⟩
              | (go_roundw
                 case rel => exact ⟨4, by omega, rfl, hF9, by rw [em.out]; exact h99, by rw [eM.out]; exact h109⟩
                 case measure => simp [intOf])
      · have hf1 := HFT.out.1
        have hf2 := HFT.out.2
        generalize mK p1 p2 p3 p4 4 = m at *
        generalize MK p1 p2 p3 p4 4 = M at *
        have hD := fun w => down_hl m d w hf1 hd
        have hB1 := fun w => bound_hl (m / d) w (fits_div hf1 (by omega))
        have hU := fun w => up_hl M d w hf2 hd
        have hB2 := fun w => bound_hl (upI M d) w (by
          have := fits_div (p := -M) (d := d) (by unfold Fits at *; omega) (by omega)
          unfold upI
          unfold Fits at *
          omega)
        have hyes := HYES.out
        have hno := HNO.out
        clear HYES HNO
        generalize (if okB (m / d) then m / d else 0) = n1 at *
        generalize (if okB (upI M d) then upI M d else 0) = n2 at *
        generalize okB (m / d) = b1' at *
        generalize okB (upI M d) = b2' at *
        generalize m / d = md at *
        generalize upI M d = Md at *
        have HD := Lib.hid hD
        have HB1 := Lib.hid hB1
        have HU := Lib.hid hU
        have HB2 := Lib.hid hB2
        have HYES := Lib.hid hyes
        have HNO := Lib.hid hno
        clear hD hB1 hU hB2 hf1 hf2 HFT hd hyes hno
        have k0 := h9.c0
        have k1 := h9.c1
        go_wp2_with fail
        refine (HD.out _).mono ?_
        rintro e u1 ⟨he, hb⟩
        subst he
        have F1 := hF.later hb
        have X1 := h10.later hb
        clear hF h9 h10 k0 k1 hb
        go_wp2_with fail
        refine (HB1.out _).mono ?_
        rintro e u2 ⟨he, hb⟩
        subst he
        have F2 := F1.later hb
        have X2 := X1.later hb
        have k0 := X2.c0
        have k1 := X2.c1
        clear F1 X1 hb
        go_wp2_with fail
        refine (HU.out _).mono ?_
        rintro e u3 ⟨he, hb⟩
        subst he
        have F3 := Lib.hid (F2.later hb)
        clear F2 X2 k0 k1 hb
        go_wp2_with fail
        refine (HB2.out _).mono ?_
        rintro e u4 ⟨he, hb⟩
        subst he
        have F4 := F3.out.later hb
        obtain ⟨p, q, hr⟩ := F4.res
        have c30 := hr.c0
        have c31 := hr.c1
        have f30 := hr.f0
        have f31 := hr.f1
        have FB := Lib.hid F4
        clear F4 hb hr
        cases b1'
        · have hR := HNO.out (.inl rfl)
          clear HNO HYES
          subst hR
          go_wp2_with fail
          refine bodyPost_ret (v := .tuple #[.agg #[.int .i64 0, .int .i64 0], .int .i64 7]) (by simp [results, Tryd.results192, c30, c31, go_sem]) rfl ⟨rfl, (FB.out.set _ _).bl⟩
        · cases b2'
          · have hR := HNO.out (.inr rfl)
            clear HNO HYES
            subst hR
            go_wp2_with fail
            refine bodyPost_ret (v := .tuple #[.agg #[.int .i64 0, .int .i64 0], .int .i64 7]) (by simp [results, Tryd.results192, c30, c31, go_sem]) rfl ⟨rfl, (FB.out.set _ _).bl⟩
          · have hR := HYES.out rfl rfl
            clear HNO HYES
            subst hR
            go_wp2_with fail
            refine bodyPost_ret (v := .tuple #[.agg #[.int .i64 n1, .int .i64 n2], .int .i64 0]) (by simp [results, Tryd.results192, c30, c31, go_sem]) rfl ⟨rfl, (FB.out.set _ _).bl⟩
  refine E_start (S := fun w' => Fm w [(w.heap.size, .int .i64 a1, .int .i64 a2), (w.heap.size + 1, .int .i64 b1, .int .i64 b2)] (w.heap.size + 1 + 1) w' ∧ C8 w' g (fun i => ([.int .i64 (hw p1), .int .u64 (lw p1), .int .i64 (hw p2), .int .u64 (lw p2), .int .i64 (hw p3), .int .u64 (lw p3), .int .i64 (hw p4), .int .u64 (lw p4)] : List Value).getD i undef) ∧ w'.cell? ⟨g, 0, none⟩ = some (.int .i64 (hw p1)) ∧ w'.cell? ⟨g, 1, none⟩ = some (.int .u64 (lw p1))) (by kernel_rfl) ⟨HF.out.drew, HV.out.later (below_drewN w5 1), e0, e1⟩ ?_
  clear e0 e1
  refine call_take (i := 0) (v := .pointer (some ⟨g, 0, none⟩)) rfl (by kernel_rfl) (by kernel_rfl) (by kernel_rfl) (fun _ _ _ h => h) ⟨by rfl, .inr (fun w' hSw => by (try dsimp only at hSw); go_simp)⟩ ?_
  simp only [Act.put, List.setIfInBounds_toArray, List.set_cons_zero, List.set_cons_succ]
  refine call_take (i := 1) (v := .agg #[.int .i64 (hw p1), .int .u64 (lw p1)]) rfl (by kernel_rfl) (by kernel_rfl) (by kernel_rfl) (fun _ _ _ h => h) ⟨by rfl, .inr (fun w' hSw => by (try dsimp only at hSw); go_simp)⟩ ?_
  simp only [Act.put, List.setIfInBounds_toArray, List.set_cons_zero, List.set_cons_succ]
  refine call_take (i := 2) (v := .pointer (some ⟨g, 0, none⟩)) rfl (by kernel_rfl) (by kernel_rfl) (by kernel_rfl) (fun _ _ _ h => h) ⟨by rfl, .inr (fun w' hSw => by (try dsimp only at hSw); go_simp)⟩ ?_
  simp only [Act.put, List.setIfInBounds_toArray, List.set_cons_zero, List.set_cons_succ]
  refine call_take (i := 3) (v := .agg #[.int .i64 (hw p1), .int .u64 (lw p1)]) rfl (by kernel_rfl) (by kernel_rfl) (by kernel_rfl) (fun _ _ _ h => h) ⟨by rfl, .inr (fun w' hSw => by (try dsimp only at hSw); go_simp)⟩ ?_
  simp only [Act.put, List.setIfInBounds_toArray, List.set_cons_zero, List.set_cons_succ]
  have SO2 := Lib.hid (show ∀ w', Fm w [(w.heap.size, .int .i64 a1, .int .i64 a2), (w.heap.size + 1, .int .i64 b1, .int .i64 b2)] (w.heap.size + 1 + 1) w' → C8 w' g (fun i => ([.int .i64 (hw p1), .int .u64 (lw p1), .int .i64 (hw p2), .int .u64 (lw p2), .int .i64 (hw p3), .int .u64 (lw p3), .int .i64 (hw p4), .int .u64 (lw p4)] : List Value).getD i undef) → Fm w [(w.heap.size, .int .i64 a1, .int .i64 a2), (w.heap.size + 1, .int .i64 b1, .int .i64 b2)] (w.heap.size + 1 + 1) w' ∧ C8 w' g (fun i => ([.int .i64 (hw p1), .int .u64 (lw p1), .int .i64 (hw p2), .int .u64 (lw p2), .int .i64 (hw p3), .int .u64 (lw p3), .int .i64 (hw p4), .int .u64 (lw p4)] : List Value).getD i undef) ∧ w'.cell? ⟨g, 0, none⟩ = some (.int .i64 (hw p1)) ∧ w'.cell? ⟨g, 1, none⟩ = some (.int .u64 (lw p1)) from fun w' h h' => ⟨h, h', h'.c 0 (by omega), h'.c 1 (by omega)⟩)
  clear HF HV hKe
  refine E_two (i := 4) (j := 5) rfl rfl (by kernel_rfl) (fun w6 hx K hK => ?_) (fun w6 hx K hK => ?_)
  · go_simp
    refine hK _ _ (SO2.out _ (hx.2.1.alloc _) (hx.2.2.1.later (below_alloc _ _))) ?_
    clear hK K
    have c9 := Cell2.new w6 (.int .i64 0) (.int .u64 0) 221
    have g9lt := hx.2.2.1.lt
    clear hx
    refine E_one (i := 5) rfl (by kernel_rfl) (fun w7 hx7 K hK => ?_)
    have c9 := c9.later hx7.1
    generalize w6.heap.size = g9 at *
    go_simp
    refine hK _ _ (SO2.out _ (hx7.2.1.alloc _) (hx7.2.2.1.later (below_alloc _ _))) ?_
    clear hK K
    have c10 := Cell2.new w7 (.int .i64 0) (.int .u64 0) 221
    have hlt2 := c9.lt
    have c9 := c9.alloc (.cells #[.int .i64 0, .int .u64 0] 221)
    clear hx7
    refine E_one (i := 6) rfl (by kernel_rfl) (fun w8 hx8 K hK => ?_)
    have c9 := c9.later hx8.1
    have c10 := c10.later hx8.1
    generalize w7.heap.size = g10 at *
    have k0 := c9.c0
    have k1 := c9.c1
    have f0 := c9.f0
    have f1 := c9.f1
    go_simp
    refine hK _ _ (SO2.out _ ((hx8.2.1.over (by
      intro t ht
      simp at ht
      rcases ht with rfl | rfl <;> simp only <;> omega) (by omega) 0 _).over (by
      intro t ht
      simp at ht
      rcases ht with rfl | rfl <;> simp only <;> omega) (by omega) 1 _) ((hx8.2.2.1.setOther (by omega) 0 _).setOther (by omega) 1 _)) ?_
    clear hK K k0 k1 f0 f1
    have c10 := (c10.setOther (r := g9) (by omega) 0 (.int .i64 (hw p1))).setOther (r := g9) (by omega) 1 (.int .u64 (lw p1))
    have c9 := c9.set (.int .i64 (hw p1)) (.int .u64 (lw p1))
    clear hx8
    refine E_one (i := 7) rfl (by kernel_rfl) (fun w9 hx9 K hK => ?_)
    have c9 := c9.later hx9.1
    have c10 := c10.later hx9.1
    have k0 := c10.c0
    have k1 := c10.c1
    have f0 := c10.f0
    have f1 := c10.f1
    go_simp
    refine hK _ _ (SO2.out _ ((hx9.2.1.over (by
      intro t ht
      simp at ht
      rcases ht with rfl | rfl <;> simp only <;> omega) (by omega) 0 _).over (by
      intro t ht
      simp at ht
      rcases ht with rfl | rfl <;> simp only <;> omega) (by omega) 1 _) ((hx9.2.2.1.setOther (by omega) 0 _).setOther (by omega) 1 _)) ?_
    clear hK K k0 k1 f0 f1
    have c9 := (c9.setOther (r := g10) (by omega) 0 (.int .i64 (hw p1))).setOther (r := g10) (by omega) 1 (.int .u64 (lw p1))
    have c10 := c10.set (.int .i64 (hw p1)) (.int .u64 (lw p1))
    clear hx9
    refine E_done (by kernel_rfl) (fun w10 hx10 => ?_) _
    exact H2 w10 g9 g10 hx10.2.1 hx10.2.2.1 (c9.later hx10.1) (c10.later hx10.1) (by omega) (by omega) (by omega)
  · go_simp
    refine hK _ _ (SO2.out _ (hx.2.1.alloc _) (hx.2.2.1.later (below_alloc _ _))) ?_
    clear hK K
    have c10 := Cell2.new w6 (.int .i64 0) (.int .u64 0) 221
    have g10lt := hx.2.2.1.lt
    clear hx
    refine E_one (i := 4) rfl (by kernel_rfl) (fun w7 hx7 K hK => ?_)
    have c10 := c10.later hx7.1
    generalize w6.heap.size = g10 at *
    go_simp
    refine hK _ _ (SO2.out _ (hx7.2.1.alloc _) (hx7.2.2.1.later (below_alloc _ _))) ?_
    clear hK K
    have c9 := Cell2.new w7 (.int .i64 0) (.int .u64 0) 221
    have hlt2 := c10.lt
    have c10 := c10.alloc (.cells #[.int .i64 0, .int .u64 0] 221)
    clear hx7
    refine E_one (i := 6) rfl (by kernel_rfl) (fun w8 hx8 K hK => ?_)
    have c10 := c10.later hx8.1
    have c9 := c9.later hx8.1
    generalize w7.heap.size = g9 at *
    have k0 := c9.c0
    have k1 := c9.c1
    have f0 := c9.f0
    have f1 := c9.f1
    go_simp
    refine hK _ _ (SO2.out _ ((hx8.2.1.over (by
      intro t ht
      simp at ht
      rcases ht with rfl | rfl <;> simp only <;> omega) (by omega) 0 _).over (by
      intro t ht
      simp at ht
      rcases ht with rfl | rfl <;> simp only <;> omega) (by omega) 1 _) ((hx8.2.2.1.setOther (by omega) 0 _).setOther (by omega) 1 _)) ?_
    clear hK K k0 k1 f0 f1
    have c10 := (c10.setOther (r := g9) (by omega) 0 (.int .i64 (hw p1))).setOther (r := g9) (by omega) 1 (.int .u64 (lw p1))
    have c9 := c9.set (.int .i64 (hw p1)) (.int .u64 (lw p1))
    clear hx8
    refine E_one (i := 7) rfl (by kernel_rfl) (fun w9 hx9 K hK => ?_)
    have c9 := c9.later hx9.1
    have c10 := c10.later hx9.1
    have k0 := c10.c0
    have k1 := c10.c1
    have f0 := c10.f0
    have f1 := c10.f1
    go_simp
    refine hK _ _ (SO2.out _ ((hx9.2.1.over (by
      intro t ht
      simp at ht
      rcases ht with rfl | rfl <;> simp only <;> omega) (by omega) 0 _).over (by
      intro t ht
      simp at ht
      rcases ht with rfl | rfl <;> simp only <;> omega) (by omega) 1 _) ((hx9.2.2.1.setOther (by omega) 0 _).setOther (by omega) 1 _)) ?_
    clear hK K k0 k1 f0 f1
    have c9 := (c9.setOther (r := g10) (by omega) 0 (.int .i64 (hw p1))).setOther (r := g10) (by omega) 1 (.int .u64 (lw p1))
    have c10 := c10.set (.int .i64 (hw p1)) (.int .u64 (lw p1))
    clear hx9
    refine E_done (by kernel_rfl) (fun w10 hx10 => ?_) _
    exact H2 w10 g9 g10 hx10.2.1 hx10.2.2.1 (c9.later hx10.1) (c10.later hx10.1) (by omega) (by omega) (by omega)
end Go.Proofs.YtmbcejldifobnaaDoor.Sp

namespace Go.Proofs.YtmbcejldifobnaaDoor.Sp
open Go.RowKit
def addW (a b : Int × Int) : (Int × Int) × Int := if examI [a, b] = 0 then spanW (a.1 + b.1) (a.2 + b.2) else ((0, 0), examI [a, b])
def subW (a b : Int × Int) : (Int × Int) × Int := if examI [a, b] = 0 then spanW (a.1 - b.2) (a.2 - b.1) else ((0, 0), examI [a, b])
set_option maxRecDepth 100000 in
theorem add_any (a b : Int × Int) (w : World) (ha : I64 a.1 ∧ I64 a.2) (hb : I64 b.1 ∧ I64 b.2) :
    Calls Tryd.prog 137 #[ivV a, ivV b] w fun e w' => e = .returned (ivE (addW a b)) ∧ Below w.heap.size w w' := by
  have hex := fun W n hn => exam2_at a b W n hn ha hb
  have hno : ¬ examI [a, b] = 0 → ivE (addW a b) = .tuple #[.agg #[.int .i64 0, .int .i64 0], .int .i64 (examI [a, b])] := fun h => by unfold addW; rw [if_neg h]; rfl
  have hyes : examI [a, b] = 0 → ∃ x y e, ivE (addW a b) = .tuple #[.agg #[.int .i64 x, .int .i64 y], .int .i64 e] ∧ ∀ W, Calls Tryd.prog 170 #[ivV a, ivV b] W fun e' w' => e' = .returned (.tuple #[.agg #[.int .i64 x, .int .i64 y], .int .i64 e]) ∧ Below W.heap.size W w' := fun h => by
    refine ⟨(addW a b).1.1, (addW a b).1.2, (addW a b).2, rfl, fun W => ?_⟩
    have h1 := examI_ok h a (by simp)
    have h2 := examI_ok h b (by simp)
    unfold addW
    rw [if_pos h]
    exact sum_any a b W h1.1 h1.2.1 h2.1 h2.2.1
  clear ha hb
  have HEX := Lib.hid hex
  clear hex
  obtain ⟨er, her⟩ : ∃ er, er = examI [a, b] := ⟨_, rfl⟩
  rw [← her] at HEX hno hyes
  clear her
  generalize ivE (addW a b) = R at *
  unfold ivV at *
  by_cases h0 : er = 0
  · subst h0
    obtain ⟨x, y, ee, rfl, hs⟩ := hyes rfl
    have HS := Lib.hid hs
    clear hno hyes hs
    go_enter Tryd.func137, Tryd.ntmps137
    go_wp2_with fail
    refine (HEX.out _ _ (by simp)).mono ?_
    rintro e w1 ⟨he, hb⟩
    subst he
    obtain ⟨k1, k2, k3, hb1⟩ := box3 hb
    have c10 := k1.c0
    have c11 := k1.c1
    have c20 := k2.c0
    have c21 := k2.c1
    have HB1 := Lib.hid hb1
    have K3 := Lib.hid k3
    clear hb hb1 k1 k2 k3
    go_wp2_with fail
    refine (HS.out _).mono ?_
    rintro e w2 ⟨he, hb2⟩
    subst he
    have hbx := Below.after HB1.out hb2
    have HB2 := Lib.hid hbx
    have k3 := K3.out.later hb2
    clear hb2 hbx
    have c30 := k3.c0
    have c31 := k3.c1
    have f30 := k3.f0
    have f31 := k3.f1
    clear k3
    go_wp2_with fail
    refine bodyPost_ret (v := .tuple #[.agg #[.int .i64 x, .int .i64 y], .int .i64 ee]) (by simp [results, Tryd.results137, c30, c31, go_sem]) rfl ⟨rfl, ?_⟩
    exact Below.set2 HB2.out _ (Nat.le_add_right _ 2) _ _
  · have q1 : (er == 0) = false := by simp [h0]
    have q2 : (er != 0) = true := by simp [h0]
    obtain rfl := hno h0
    clear hno hyes h0
    go_enter Tryd.func137, Tryd.ntmps137
    go_wp2_with fail
    refine (HEX.out _ _ (by simp)).mono ?_
    rintro e w1 ⟨he, hb⟩
    subst he
    obtain ⟨k1, k2, k3, hb1⟩ := box3 hb
    have c30 := k3.c0
    have c31 := k3.c1
    have f30 := k3.f0
    have f31 := k3.f1
    have HB1 := Lib.hid hb1
    clear hb hb1 k1 k2
    go_wp2_with fail
    refine bodyPost_ret (v := .tuple #[.agg #[.int .i64 0, .int .i64 0], .int .i64 er]) (by simp [results, Tryd.results137, c30, c31, go_sem]) rfl ⟨rfl, ?_⟩
    exact Below.set2 HB1.out _ (Nat.le_add_right _ 2) _ _

set_option maxRecDepth 100000 in
theorem sub_any (a b : Int × Int) (w : World) (ha : I64 a.1 ∧ I64 a.2) (hb : I64 b.1 ∧ I64 b.2) :
    Calls Tryd.prog 166 #[ivV a, ivV b] w fun e w' => e = .returned (ivE (subW a b)) ∧ Below w.heap.size w w' := by
  have hex := fun W n hn => exam2_at a b W n hn ha hb
  have hno : ¬ examI [a, b] = 0 → ivE (subW a b) = .tuple #[.agg #[.int .i64 0, .int .i64 0], .int .i64 (examI [a, b])] := fun h => by unfold subW; rw [if_neg h]; rfl
  have hyes : examI [a, b] = 0 → ∃ x y e, ivE (subW a b) = .tuple #[.agg #[.int .i64 x, .int .i64 y], .int .i64 e] ∧ (∀ W, Calls Tryd.prog 177 #[ivV b] W fun e' w' => e' = .returned (ivV (negI b)) ∧ Below W.heap.size W w') ∧
      ∀ W, Calls Tryd.prog 170 #[ivV a, ivV (negI b)] W fun e' w' => e' = .returned (.tuple #[.agg #[.int .i64 x, .int .i64 y], .int .i64 e]) ∧ Below W.heap.size W w' := fun h => by
    refine ⟨(subW a b).1.1, (subW a b).1.2, (subW a b).2, rfl, fun W => ?_, fun W => ?_⟩
    · have h2 := examI_ok h b (by simp)
      exact minus_any b W h2.1 h2.2.1
    · have h1 := examI_ok h a (by simp)
      have h2 := examI_ok h b (by simp)
      unfold subW
      rw [if_pos h]
      have := sum_any a (negI b) W h1.1 h1.2.1 (by have := okB_iff.1 h2.2.1; exact okB_of (by unfold negI; simp only; omega)) (by have := okB_iff.1 h2.1; exact okB_of (by unfold negI; simp only; omega))
      rw [show a.1 + (negI b).1 = a.1 - b.2 from (Int.sub_eq_add_neg).symm, show a.2 + (negI b).2 = a.2 - b.1 from (Int.sub_eq_add_neg).symm] at this
      exact this
  clear ha hb
  have HEX := Lib.hid hex
  clear hex
  obtain ⟨er, her⟩ : ∃ er, er = examI [a, b] := ⟨_, rfl⟩
  rw [← her] at HEX hno hyes
  clear her
  generalize ivE (subW a b) = R at *
  unfold ivV at *
  by_cases h0 : er = 0
  · subst h0
    obtain ⟨x, y, ee, rfl, hm, hs⟩ := hyes rfl
    generalize (negI b).1 = n1 at *
    generalize (negI b).2 = n2 at *
    have HM := Lib.hid hm
    have HS := Lib.hid hs
    clear hno hyes hs hm
    go_enter Tryd.func166, Tryd.ntmps166
    go_wp2_with fail
    refine (HEX.out _ _ (by simp)).mono ?_
    rintro e w1 ⟨he, hb⟩
    subst he
    have F := Fm.of3 hb
    have c10 := F.k0.c0
    have c11 := F.k0.c1
    have c20 := F.k1.c0
    have c21 := F.k1.c1
    clear hb
    go_wp2_with fail
    go_region_held3 (fun w' => Fm w [(w.heap.size, .int .i64 a.1, .int .i64 a.2), (w.heap.size + 1, .int .i64 b.1, .int .i64 b.2)] (w.heap.size + 1 + 1) w' ∧ w'.cell? ⟨w.heap.size, 0, none⟩ = some (.int .i64 a.1) ∧ w'.cell? ⟨w.heap.size, 1, none⟩ = some (.int .i64 a.2) ∧ w'.cell? ⟨w.heap.size + 1, 0, none⟩ = some (.int .i64 b.1) ∧ w'.cell? ⟨w.heap.size + 1, 1, none⟩ = some (.int .i64 b.2))
      (refine ⟨?_, ?_, ?_, ?_, ?_⟩ <;> first | assumption | (exact Fm.drew ‹_›) | (exact Fm.set ‹_› _ _) | (exact (Fm.set ‹_› _ _).k0.c0) | (exact (Fm.set ‹_› _ _).k0.c1) | (exact (Fm.set ‹_› _ _).k1.c0) | (exact (Fm.set ‹_› _ _).k1.c1) | go_keep)
      (first
        | (go_at_call 177; refine Calls.mono (HM.out _) ?_; clear HM; rintro e w2 ⟨he, hb2⟩; subst he; have hS2 : Fm w [(w.heap.size, .int .i64 a.1, .int .i64 a.2), (w.heap.size + 1, .int .i64 b.1, .int .i64 b.2)] (w.heap.size + 1 + 1) w2 := Fm.later (by first | assumption | exact Fm.drew ‹_›) hb2; have c10' := hS2.k0.c0; have c11' := hS2.k0.c1; have c20' := hS2.k1.c0; have c21' := hS2.k1.c1)
        | (go_at_call 170; refine Calls.mono (HS.out _) ?_; clear HS; rintro e w3 ⟨he, hb3⟩; subst he; have hS3 : Fm w [(w.heap.size, .int .i64 a.1, .int .i64 a.2), (w.heap.size + 1, .int .i64 b.1, .int .i64 b.2)] (w.heap.size + 1 + 1) w3 := Fm.later (by first | assumption | exact Fm.drew ‹_›) hb3; have c10'' := hS3.k0.c0; have c11'' := hS3.k0.c1; have c20'' := hS3.k1.c0; have c21'' := hS3.k1.c1; obtain ⟨p, q, hr⟩ := hS3.res; have c30 := hr.c0; have c31 := hr.c1; have f30 := hr.f0; have f31 := hr.f1))
    all_goals
      have HB := Lib.hid hS3.bl
      clear hS3 hS2 F hr
      go_wp2_with fail
      refine bodyPost_ret (v := .tuple #[.agg #[.int .i64 x, .int .i64 y], .int .i64 ee]) (by simp [results, Tryd.results166, c30, c31, go_sem]) rfl ⟨rfl, ?_⟩
      exact Below.set2 HB.out _ (Nat.le_add_right _ 2) _ _
  · have q1 : (er == 0) = false := by simp [h0]
    have q2 : (er != 0) = true := by simp [h0]
    obtain rfl := hno h0
    clear hno hyes h0
    go_enter Tryd.func166, Tryd.ntmps166
    go_wp2_with fail
    refine (HEX.out _ _ (by simp)).mono ?_
    rintro e w1 ⟨he, hb⟩
    subst he
    obtain ⟨k1, k2, k3, hb1⟩ := box3 hb
    have c30 := k3.c0
    have c31 := k3.c1
    have f30 := k3.f0
    have f31 := k3.f1
    have HB1 := Lib.hid hb1
    clear hb hb1 k1 k2
    go_wp2_with fail
    refine bodyPost_ret (v := .tuple #[.agg #[.int .i64 0, .int .i64 0], .int .i64 er]) (by simp [results, Tryd.results166, c30, c31, go_sem]) rfl ⟨rfl, ?_⟩
    exact Below.set2 HB1.out _ (Nat.le_add_right _ 2) _ _

end Go.Proofs.YtmbcejldifobnaaDoor.Sp
