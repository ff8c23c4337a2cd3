import Derived.Test.YtkoghdgfllichaaDoorPAF
import Derived.Deep.MidRow
import Derived.Test.YtkoghdgfllichaaDoorPBA
import Derived.Deep.DeepCutAuto
namespace Go.Proofs.YtkoghdgfllichaaDoor
open Go.RowKit

/-! Plain regions, operation by operation, without the simplifier. -/
/-- A proposition shut in. -/
structure Boxd (p : Prop) : Prop where
  out : p
theorem st_run {P : Program} {ops : Array Oper} {rest : List Oper} {o : Oper} {a : Act} {w : World} {Q : Exit → Act → World → Prop} {v : Value} (v' : Value) (hw : Region.wanted o (yielded ops a.tmps) = true)
    (hr : (execOp a.eval o).run P w = .ok (.value v) w) (hv : v = v') (h : Boxd (wpList P ops Q rest (a.put o.dst v') w)) : Boxd (wpList P ops Q (o :: rest) a w) := by
  subst hv
  refine Boxd.mk ?_
  unfold wpList
  rw [if_pos hw]
  refine .inl ?_
  unfold Oper.wp
  rw [hr]
  exact h.out
theorem st_load {ops : Array Oper} {rest : List Oper} {o : Oper} {a : Act} {w : World} {Q : Exit → Act → World → Prop} (n : Int) (x : Operand) (A : Addr) (hw : Region.wanted o (yielded ops a.tmps) = true)
    (ho : o.op = .load 2 x) (hx : a.eval x = .pointer (some A)) (hc : w.cell? A = some (.int .i64 n)) (h : Boxd (wpList Tryd.prog ops Q rest (a.put o.dst (.int .i64 n)) w)) : Boxd (wpList Tryd.prog ops Q (o :: rest) a w) := by
  obtain ⟨d, op, ty, pos, af, gd⟩ := o
  subst ho
  refine st_run (v := .int .i64 n) _ hw ?_ rfl h
  clear h hw
  generalize a.eval = E at *
  go_simp
theorem st_intload {ops : Array Oper} {rest : List Oper} {o : Oper} {a : Act} {w : World} {Q : Exit → Act → World → Prop} (n : Int) (x : Operand) (A : Addr) (hw : Region.wanted o (yielded ops a.tmps) = true)
    (ho : o.op = .load 3 x) (hx : a.eval x = .pointer (some A)) (hc : w.cell? A = some (.int .i64 n)) (h : Boxd (wpList Tryd.prog ops Q rest (a.put o.dst (.int .i64 n)) w)) : Boxd (wpList Tryd.prog ops Q (o :: rest) a w) := by
  obtain ⟨d, op, ty, pos, af, gd⟩ := o
  subst ho
  refine st_run (v := .int .i64 n) _ hw ?_ rfl h
  clear h hw
  generalize a.eval = E at *
  go_simp
theorem st_skip {P : Program} {ops : Array Oper} {Q : Exit → Act → World → Prop} {a : Act} {w : World} {rest : List Oper} {o : Oper}
    (hw : Region.wanted o (yielded ops a.tmps) = false) (h : Boxd (wpList P ops Q rest (a.put o.dst undef) w)) : Boxd (wpList P ops Q (o :: rest) a w) := ⟨wpList_skip hw h.out⟩
theorem st_mid {ops : Array Oper} {rest : List Oper} {o : Oper} {a : Act} {w : World} {Q : Exit → Act → World → Prop} {P : Program} (ty : TypeId) (x : Operand) (b off : Nat) (cs : List Value) (d : TypeDesc) (hw : Region.wanted o (yielded ops a.tmps) = true)
    (ho : o.op = .load ty x) (hx : a.eval x = .pointer (some ⟨b, off, none⟩)) (hc : w.rangeAt b off cs) (hu : P.underlying ty = some d) (hd : d.isRow = true) (hi : (P.info? ty).map (·.size) = some cs.length)
    (h : Boxd (wpList P ops Q rest (a.put o.dst (.agg cs.toArray)) w)) : Boxd (wpList P ops Q (o :: rest) a w) := by
  refine Boxd.mk ?_
  unfold wpList
  rw [if_pos hw]
  exact Or.inl (wp_load_mid ty x ho b off hx cs d hc hu hd hi h.out)
theorem st_call {ops : Array Oper} {rest : List Oper} {o : Oper} {a : Act} {w : World} {Q : Exit → Act → World → Prop} {P : Program} (f : FuncId) (args : Array Value) {R : Value → World → Prop} (hw : Region.wanted o (yielded ops a.tmps) = true)
    (hr : (execOp a.eval o).run P w = .ok (.enter f args) w) (hc : Calls P f args w fun e w' => ∃ v, e = .returned v ∧ R v w') (h : ∀ v w', R v w' → Boxd (wpList P ops Q rest (a.put o.dst v) w')) : Boxd (wpList P ops Q (o :: rest) a w) := by
  refine Boxd.mk ?_
  unfold wpList
  rw [if_pos hw]
  refine .inl ?_
  unfold Oper.wp
  rw [hr]
  refine hc.mono ?_
  rintro e w' ⟨v, rfl, hR⟩
  exact (h v w' hR).out
theorem st_ivneq {ops : Array Oper} {rest : List Oper} {o : Oper} {a : Act} {w : World} {Q : Exit → Act → World → Prop} (m n : Int) (x y : Operand) (hw : Region.wanted o (yielded ops a.tmps) = true)
    (ho : o.op = .binOp .neq 55 x y 55) (hx : a.eval x = .agg #[.int .i64 m, .int .i64 n]) (hy : a.eval y = .agg #[.int .i64 m, .int .i64 n]) (h : Boxd (wpList Tryd.prog ops Q rest (a.put o.dst (.bool false)) w)) : Boxd (wpList Tryd.prog ops Q (o :: rest) a w) := by
  obtain ⟨d, op, ty, pos, af, gd⟩ := o
  subst ho
  refine st_run (v := .bool false) _ hw ?_ rfl h
  clear h hw
  generalize a.eval = E at *
  go_simp
theorem st_nil {P : Program} {ops : Array Oper} {Q : Exit → Act → World → Prop} {a : Act} {w : World} (h : Q .normal a w) : Boxd (wpList P ops Q [] a w) := ⟨h⟩
theorem st_in {P : Program} {ops : Array Oper} {Q : Exit → Act → World → Prop} {a : Act} {w : World} {id : Nat} (h : Boxd (wpList P ops Q ops.toList a w)) : (Code.region id ops false).wp P Q a w := wp_region_list h.out
end Go.Proofs.YtkoghdgfllichaaDoor
namespace Go.Proofs.YtkoghdgfllichaaDoor.Pc
open Go.RowKit Tp

/-! The law's doubles, operation by operation. -/
set_option maxRecDepth 100000 in
set_option maxHeartbeats 1000000 in
theorem dbl000 (m n M N : Int) (w : World) (F1 : decide (m ≤ n) = true) (F2 : decide (M ≤ N) = true) (F3 : decide (0 ≤ m) = true) (F4 : decide (n < 1099511627776) = true) (WM : Hid (IntKind.i64.wrap (2 * m) = M)) (WN : Hid (IntKind.i64.wrap (2 * n) = N)) (F5 : (M == M) = true) (F7 : (N == N) = true) (F9 : decide (m < n) = true) : Calls Tryd.prog 27 #[.agg #[.int .i64 m, .int .i64 n], .agg #[.int .i64 M, .int .i64 N]] w fun e w' => e = .returned (.bool true) ∧ Below w.heap.size w w' := by
  obtain ⟨W, hW⟩ : ∃ W, W = (w.alloc (.cells #[.int .i64 m, .int .i64 n] 55)).alloc (.cells #[.int .i64 M, .int .i64 N] 55) := ⟨_, rfl⟩
  have hb : Below w.heap.size w W := by rw [hW]; exact (belB w (.cells #[.int .i64 m, .int .i64 n] 55)).alloc (by simp) (.cells #[.int .i64 M, .int .i64 N] 55)
  have r0 : RowV W w.heap.size 55 [.int .i64 m, .int .i64 n] := by rw [hW]; exact (RowV.of_alloc w 55 [.int .i64 m, .int .i64 n]).alloc _
  have r1 : RowV W (w.heap.size + 1) 55 [.int .i64 M, .int .i64 N] := by
    have h := RowV.of_alloc (w.alloc (.cells #[.int .i64 m, .int .i64 n] 55)) 55 [.int .i64 M, .int .i64 N]
    rw [World.size_alloc] at h
    rw [hW]; exact h
  have c0 := RowV.c0 r0
  have c1 := RowV.c1 r0
  have d0 := RowV.c0 r1
  have d1 := RowV.c1 r1
  have HB := Lib.hid hb
  have HW := Lib.hid hW
  clear hb hW r0 r1
  go_enter Tryd.func27, Tryd.ntmps27
  go_upto_region 1 with fail
  rw [← HW.out]
  clear HW
  refine st_in ?_
  refine st_run (v := .pointer (some ⟨w.heap.size, 0, none⟩)) (.pointer (some ⟨w.heap.size, 0, none⟩)) (by kernel_rfl) (by kernel_rfl) rfl ?_
  simp only [Act.put, List.setIfInBounds_toArray, List.set_cons_zero, List.set_cons_succ]
  refine st_load m (.tmp 5) ⟨w.heap.size, 0, none⟩ (by kernel_rfl) rfl (by kernel_rfl) c0 ?_
  simp only [Act.put, List.setIfInBounds_toArray, List.set_cons_zero, List.set_cons_succ]
  refine st_run (v := .pointer (some ⟨w.heap.size, 1, none⟩)) (.pointer (some ⟨w.heap.size, 1, none⟩)) (by kernel_rfl) (by kernel_rfl) rfl ?_
  simp only [Act.put, List.setIfInBounds_toArray, List.set_cons_zero, List.set_cons_succ]
  refine st_load n (.tmp 7) ⟨w.heap.size, 1, none⟩ (by kernel_rfl) rfl (by kernel_rfl) c1 ?_
  simp only [Act.put, List.setIfInBounds_toArray, List.set_cons_zero, List.set_cons_succ]
  refine st_run (v := .bool (decide (m ≤ n))) (.bool true) (by kernel_rfl) (by kernel_rfl) (congrArg Value.bool F1) ?_
  simp only [Act.put, List.setIfInBounds_toArray, List.set_cons_zero, List.set_cons_succ]
  refine st_run (v := .bool true) (.bool true) (by kernel_rfl) (by kernel_rfl) rfl ?_
  simp only [Act.put, List.setIfInBounds_toArray, List.set_cons_zero, List.set_cons_succ]
  refine st_run (v := .pointer (some ⟨w.heap.size + 1, 0, none⟩)) (.pointer (some ⟨w.heap.size + 1, 0, none⟩)) (by kernel_rfl) (by kernel_rfl) rfl ?_
  simp only [Act.put, List.setIfInBounds_toArray, List.set_cons_zero, List.set_cons_succ]
  refine st_load M (.tmp 11) ⟨w.heap.size + 1, 0, none⟩ (by kernel_rfl) rfl (by kernel_rfl) d0 ?_
  simp only [Act.put, List.setIfInBounds_toArray, List.set_cons_zero, List.set_cons_succ]
  refine st_run (v := .pointer (some ⟨w.heap.size + 1, 1, none⟩)) (.pointer (some ⟨w.heap.size + 1, 1, none⟩)) (by kernel_rfl) (by kernel_rfl) rfl ?_
  simp only [Act.put, List.setIfInBounds_toArray, List.set_cons_zero, List.set_cons_succ]
  refine st_load N (.tmp 13) ⟨w.heap.size + 1, 1, none⟩ (by kernel_rfl) rfl (by kernel_rfl) d1 ?_
  simp only [Act.put, List.setIfInBounds_toArray, List.set_cons_zero, List.set_cons_succ]
  refine st_run (v := .bool (decide (M ≤ N))) (.bool true) (by kernel_rfl) (by kernel_rfl) (congrArg Value.bool F2) ?_
  simp only [Act.put, List.setIfInBounds_toArray, List.set_cons_zero, List.set_cons_succ]
  refine st_run (v := .bool true) (.bool true) (by kernel_rfl) (by kernel_rfl) rfl ?_
  simp only [Act.put, List.setIfInBounds_toArray, List.set_cons_zero, List.set_cons_succ]
  refine st_run (v := .bool true) (.bool true) (by kernel_rfl) (by kernel_rfl) rfl ?_
  simp only [Act.put, List.setIfInBounds_toArray, List.set_cons_zero, List.set_cons_succ]
  refine st_run (v := .pointer (some ⟨w.heap.size, 0, none⟩)) (.pointer (some ⟨w.heap.size, 0, none⟩)) (by kernel_rfl) (by kernel_rfl) rfl ?_
  simp only [Act.put, List.setIfInBounds_toArray, List.set_cons_zero, List.set_cons_succ]
  refine st_load m (.tmp 18) ⟨w.heap.size, 0, none⟩ (by kernel_rfl) rfl (by kernel_rfl) c0 ?_
  simp only [Act.put, List.setIfInBounds_toArray, List.set_cons_zero, List.set_cons_succ]
  refine st_run (v := .bool (decide (0 ≤ m))) (.bool true) (by kernel_rfl) (by kernel_rfl) (congrArg Value.bool F3) ?_
  simp only [Act.put, List.setIfInBounds_toArray, List.set_cons_zero, List.set_cons_succ]
  refine st_run (v := .bool true) (.bool true) (by kernel_rfl) (by kernel_rfl) rfl ?_
  simp only [Act.put, List.setIfInBounds_toArray, List.set_cons_zero, List.set_cons_succ]
  refine st_run (v := .bool true) (.bool true) (by kernel_rfl) (by kernel_rfl) rfl ?_
  simp only [Act.put, List.setIfInBounds_toArray, List.set_cons_zero, List.set_cons_succ]
  refine st_run (v := .pointer (some ⟨w.heap.size, 1, none⟩)) (.pointer (some ⟨w.heap.size, 1, none⟩)) (by kernel_rfl) (by kernel_rfl) rfl ?_
  simp only [Act.put, List.setIfInBounds_toArray, List.set_cons_zero, List.set_cons_succ]
  refine st_load n (.tmp 23) ⟨w.heap.size, 1, none⟩ (by kernel_rfl) rfl (by kernel_rfl) c1 ?_
  simp only [Act.put, List.setIfInBounds_toArray, List.set_cons_zero, List.set_cons_succ]
  refine st_run (v := .bool (decide (n < 1099511627776))) (.bool true) (by kernel_rfl) (by kernel_rfl) (congrArg Value.bool F4) ?_
  simp only [Act.put, List.setIfInBounds_toArray, List.set_cons_zero, List.set_cons_succ]
  refine st_run (v := .bool true) (.bool true) (by kernel_rfl) (by kernel_rfl) rfl ?_
  simp only [Act.put, List.setIfInBounds_toArray, List.set_cons_zero, List.set_cons_succ]
  refine st_run (v := .bool true) (.bool true) (by kernel_rfl) (by kernel_rfl) rfl ?_
  simp only [Act.put, List.setIfInBounds_toArray, List.set_cons_zero, List.set_cons_succ]
  refine st_run (v := .pointer (some ⟨w.heap.size + 1, 0, none⟩)) (.pointer (some ⟨w.heap.size + 1, 0, none⟩)) (by kernel_rfl) (by kernel_rfl) rfl ?_
  simp only [Act.put, List.setIfInBounds_toArray, List.set_cons_zero, List.set_cons_succ]
  refine st_load M (.tmp 28) ⟨w.heap.size + 1, 0, none⟩ (by kernel_rfl) rfl (by kernel_rfl) d0 ?_
  simp only [Act.put, List.setIfInBounds_toArray, List.set_cons_zero, List.set_cons_succ]
  refine st_run (v := .pointer (some ⟨w.heap.size, 0, none⟩)) (.pointer (some ⟨w.heap.size, 0, none⟩)) (by kernel_rfl) (by kernel_rfl) rfl ?_
  simp only [Act.put, List.setIfInBounds_toArray, List.set_cons_zero, List.set_cons_succ]
  refine st_load m (.tmp 30) ⟨w.heap.size, 0, none⟩ (by kernel_rfl) rfl (by kernel_rfl) c0 ?_
  simp only [Act.put, List.setIfInBounds_toArray, List.set_cons_zero, List.set_cons_succ]
  refine st_run (v := .int .i64 (IntKind.i64.wrap (2 * m))) (.int .i64 M) (by kernel_rfl) (by kernel_rfl) (congrArg (Value.int .i64) WM.out) ?_
  simp only [Act.put, List.setIfInBounds_toArray, List.set_cons_zero, List.set_cons_succ]
  refine st_run (v := .bool (M == M)) (.bool true) (by kernel_rfl) (by kernel_rfl) (congrArg Value.bool F5) ?_
  simp only [Act.put, List.setIfInBounds_toArray, List.set_cons_zero, List.set_cons_succ]
  refine st_run (v := .bool true) (.bool true) (by kernel_rfl) (by kernel_rfl) rfl ?_
  simp only [Act.put, List.setIfInBounds_toArray, List.set_cons_zero, List.set_cons_succ]
  refine st_skip (by kernel_rfl) ?_
  simp only [Act.put, List.setIfInBounds_toArray, List.set_cons_zero, List.set_cons_succ]
  refine st_skip (by kernel_rfl) ?_
  simp only [Act.put, List.setIfInBounds_toArray, List.set_cons_zero, List.set_cons_succ]
  refine st_skip (by kernel_rfl) ?_
  simp only [Act.put, List.setIfInBounds_toArray, List.set_cons_zero, List.set_cons_succ]
  refine st_skip (by kernel_rfl) ?_
  simp only [Act.put, List.setIfInBounds_toArray, List.set_cons_zero, List.set_cons_succ]
  refine st_skip (by kernel_rfl) ?_
  simp only [Act.put, List.setIfInBounds_toArray, List.set_cons_zero, List.set_cons_succ]
  refine st_skip (by kernel_rfl) ?_
  simp only [Act.put, List.setIfInBounds_toArray, List.set_cons_zero, List.set_cons_succ]
  refine st_skip (by kernel_rfl) ?_
  simp only [Act.put, List.setIfInBounds_toArray, List.set_cons_zero, List.set_cons_succ]
  refine st_run (v := .bool true) (.bool true) (by kernel_rfl) (by kernel_rfl) rfl ?_
  simp only [Act.put, List.setIfInBounds_toArray, List.set_cons_zero, List.set_cons_succ]
  refine st_run (v := .bool true) (.bool true) (by kernel_rfl) (by kernel_rfl) rfl ?_
  simp only [Act.put, List.setIfInBounds_toArray, List.set_cons_zero, List.set_cons_succ]
  refine st_run (v := .bool true) (.bool true) (by kernel_rfl) (by kernel_rfl) rfl ?_
  simp only [Act.put, List.setIfInBounds_toArray, List.set_cons_zero, List.set_cons_succ]
  refine st_run (v := .pointer (some ⟨w.heap.size + 1, 1, none⟩)) (.pointer (some ⟨w.heap.size + 1, 1, none⟩)) (by kernel_rfl) (by kernel_rfl) rfl ?_
  simp only [Act.put, List.setIfInBounds_toArray, List.set_cons_zero, List.set_cons_succ]
  refine st_load N (.tmp 45) ⟨w.heap.size + 1, 1, none⟩ (by kernel_rfl) rfl (by kernel_rfl) d1 ?_
  simp only [Act.put, List.setIfInBounds_toArray, List.set_cons_zero, List.set_cons_succ]
  refine st_run (v := .pointer (some ⟨w.heap.size, 1, none⟩)) (.pointer (some ⟨w.heap.size, 1, none⟩)) (by kernel_rfl) (by kernel_rfl) rfl ?_
  simp only [Act.put, List.setIfInBounds_toArray, List.set_cons_zero, List.set_cons_succ]
  refine st_load n (.tmp 47) ⟨w.heap.size, 1, none⟩ (by kernel_rfl) rfl (by kernel_rfl) c1 ?_
  simp only [Act.put, List.setIfInBounds_toArray, List.set_cons_zero, List.set_cons_succ]
  refine st_run (v := .int .i64 (IntKind.i64.wrap (2 * n))) (.int .i64 N) (by kernel_rfl) (by kernel_rfl) (congrArg (Value.int .i64) WN.out) ?_
  simp only [Act.put, List.setIfInBounds_toArray, List.set_cons_zero, List.set_cons_succ]
  refine st_run (v := .bool (N == N)) (.bool true) (by kernel_rfl) (by kernel_rfl) (congrArg Value.bool F7) ?_
  simp only [Act.put, List.setIfInBounds_toArray, List.set_cons_zero, List.set_cons_succ]
  refine st_run (v := .bool true) (.bool true) (by kernel_rfl) (by kernel_rfl) rfl ?_
  simp only [Act.put, List.setIfInBounds_toArray, List.set_cons_zero, List.set_cons_succ]
  refine st_skip (by kernel_rfl) ?_
  simp only [Act.put, List.setIfInBounds_toArray, List.set_cons_zero, List.set_cons_succ]
  refine st_skip (by kernel_rfl) ?_
  simp only [Act.put, List.setIfInBounds_toArray, List.set_cons_zero, List.set_cons_succ]
  refine st_skip (by kernel_rfl) ?_
  simp only [Act.put, List.setIfInBounds_toArray, List.set_cons_zero, List.set_cons_succ]
  refine st_skip (by kernel_rfl) ?_
  simp only [Act.put, List.setIfInBounds_toArray, List.set_cons_zero, List.set_cons_succ]
  refine st_skip (by kernel_rfl) ?_
  simp only [Act.put, List.setIfInBounds_toArray, List.set_cons_zero, List.set_cons_succ]
  refine st_skip (by kernel_rfl) ?_
  simp only [Act.put, List.setIfInBounds_toArray, List.set_cons_zero, List.set_cons_succ]
  refine st_skip (by kernel_rfl) ?_
  simp only [Act.put, List.setIfInBounds_toArray, List.set_cons_zero, List.set_cons_succ]
  refine st_run (v := .bool true) (.bool true) (by kernel_rfl) (by kernel_rfl) rfl ?_
  simp only [Act.put, List.setIfInBounds_toArray, List.set_cons_zero, List.set_cons_succ]
  refine st_run (v := .bool true) (.bool true) (by kernel_rfl) (by kernel_rfl) rfl ?_
  simp only [Act.put, List.setIfInBounds_toArray, List.set_cons_zero, List.set_cons_succ]
  refine st_run (v := .bool true) (.bool true) (by kernel_rfl) (by kernel_rfl) rfl ?_
  simp only [Act.put, List.setIfInBounds_toArray, List.set_cons_zero, List.set_cons_succ]
  refine st_run (v := .pointer (some ⟨w.heap.size, 0, none⟩)) (.pointer (some ⟨w.heap.size, 0, none⟩)) (by kernel_rfl) (by kernel_rfl) rfl ?_
  simp only [Act.put, List.setIfInBounds_toArray, List.set_cons_zero, List.set_cons_succ]
  refine st_load m (.tmp 62) ⟨w.heap.size, 0, none⟩ (by kernel_rfl) rfl (by kernel_rfl) c0 ?_
  simp only [Act.put, List.setIfInBounds_toArray, List.set_cons_zero, List.set_cons_succ]
  refine st_run (v := .pointer (some ⟨w.heap.size, 1, none⟩)) (.pointer (some ⟨w.heap.size, 1, none⟩)) (by kernel_rfl) (by kernel_rfl) rfl ?_
  simp only [Act.put, List.setIfInBounds_toArray, List.set_cons_zero, List.set_cons_succ]
  refine st_load n (.tmp 64) ⟨w.heap.size, 1, none⟩ (by kernel_rfl) rfl (by kernel_rfl) c1 ?_
  simp only [Act.put, List.setIfInBounds_toArray, List.set_cons_zero, List.set_cons_succ]
  refine st_run (v := .bool (decide (m < n))) (.bool true) (by kernel_rfl) (by kernel_rfl) (congrArg Value.bool F9) ?_
  simp only [Act.put, List.setIfInBounds_toArray, List.set_cons_zero, List.set_cons_succ]
  refine st_run (v := .bool true) (.bool true) (by kernel_rfl) (by kernel_rfl) rfl ?_
  simp only [Act.put, List.setIfInBounds_toArray, List.set_cons_zero, List.set_cons_succ]
  refine st_skip (by kernel_rfl) ?_
  simp only [Act.put, List.setIfInBounds_toArray, List.set_cons_zero, List.set_cons_succ]
  refine st_skip (by kernel_rfl) ?_
  simp only [Act.put, List.setIfInBounds_toArray, List.set_cons_zero, List.set_cons_succ]
  refine st_skip (by kernel_rfl) ?_
  simp only [Act.put, List.setIfInBounds_toArray, List.set_cons_zero, List.set_cons_succ]
  refine st_skip (by kernel_rfl) ?_
  simp only [Act.put, List.setIfInBounds_toArray, List.set_cons_zero, List.set_cons_succ]
  refine st_skip (by kernel_rfl) ?_
  simp only [Act.put, List.setIfInBounds_toArray, List.set_cons_zero, List.set_cons_succ]
  refine st_run (v := .bool true) (.bool true) (by kernel_rfl) (by kernel_rfl) rfl ?_
  simp only [Act.put, List.setIfInBounds_toArray, List.set_cons_zero, List.set_cons_succ]
  refine st_run (v := .bool true) (.bool true) (by kernel_rfl) (by kernel_rfl) rfl ?_
  simp only [Act.put, List.setIfInBounds_toArray, List.set_cons_zero, List.set_cons_succ]
  refine st_run (v := .bool true) (.bool true) (by kernel_rfl) (by kernel_rfl) rfl ?_
  simp only [Act.put, List.setIfInBounds_toArray, List.set_cons_zero, List.set_cons_succ]
  refine st_nil ?_
  go_wp2
  go_ret
  exact ⟨rfl, HB.out⟩
set_option maxRecDepth 100000 in
set_option maxHeartbeats 1000000 in
theorem dbl001 (m n M N : Int) (w : World) (F1 : decide (m ≤ n) = true) (F2 : decide (M ≤ N) = true) (F3 : decide (0 ≤ m) = true) (F4 : decide (n < 1099511627776) = true) (WM : Hid (IntKind.i64.wrap (2 * m) = M)) (WN : Hid (IntKind.i64.wrap (2 * n) = N)) (F5 : (M == M) = true) (F7 : (N == N) = true) (F9 : decide (m < n) = false) (F0 : (M == N) = true) : Calls Tryd.prog 27 #[.agg #[.int .i64 m, .int .i64 n], .agg #[.int .i64 M, .int .i64 N]] w fun e w' => e = .returned (.bool true) ∧ Below w.heap.size w w' := by
  obtain ⟨W, hW⟩ : ∃ W, W = (w.alloc (.cells #[.int .i64 m, .int .i64 n] 55)).alloc (.cells #[.int .i64 M, .int .i64 N] 55) := ⟨_, rfl⟩
  have hb : Below w.heap.size w W := by rw [hW]; exact (belB w (.cells #[.int .i64 m, .int .i64 n] 55)).alloc (by simp) (.cells #[.int .i64 M, .int .i64 N] 55)
  have r0 : RowV W w.heap.size 55 [.int .i64 m, .int .i64 n] := by rw [hW]; exact (RowV.of_alloc w 55 [.int .i64 m, .int .i64 n]).alloc _
  have r1 : RowV W (w.heap.size + 1) 55 [.int .i64 M, .int .i64 N] := by
    have h := RowV.of_alloc (w.alloc (.cells #[.int .i64 m, .int .i64 n] 55)) 55 [.int .i64 M, .int .i64 N]
    rw [World.size_alloc] at h
    rw [hW]; exact h
  have c0 := RowV.c0 r0
  have c1 := RowV.c1 r0
  have d0 := RowV.c0 r1
  have d1 := RowV.c1 r1
  have HB := Lib.hid hb
  have HW := Lib.hid hW
  clear hb hW r0 r1
  go_enter Tryd.func27, Tryd.ntmps27
  go_upto_region 1 with fail
  rw [← HW.out]
  clear HW
  refine st_in ?_
  refine st_run (v := .pointer (some ⟨w.heap.size, 0, none⟩)) (.pointer (some ⟨w.heap.size, 0, none⟩)) (by kernel_rfl) (by kernel_rfl) rfl ?_
  simp only [Act.put, List.setIfInBounds_toArray, List.set_cons_zero, List.set_cons_succ]
  refine st_load m (.tmp 5) ⟨w.heap.size, 0, none⟩ (by kernel_rfl) rfl (by kernel_rfl) c0 ?_
  simp only [Act.put, List.setIfInBounds_toArray, List.set_cons_zero, List.set_cons_succ]
  refine st_run (v := .pointer (some ⟨w.heap.size, 1, none⟩)) (.pointer (some ⟨w.heap.size, 1, none⟩)) (by kernel_rfl) (by kernel_rfl) rfl ?_
  simp only [Act.put, List.setIfInBounds_toArray, List.set_cons_zero, List.set_cons_succ]
  refine st_load n (.tmp 7) ⟨w.heap.size, 1, none⟩ (by kernel_rfl) rfl (by kernel_rfl) c1 ?_
  simp only [Act.put, List.setIfInBounds_toArray, List.set_cons_zero, List.set_cons_succ]
  refine st_run (v := .bool (decide (m ≤ n))) (.bool true) (by kernel_rfl) (by kernel_rfl) (congrArg Value.bool F1) ?_
  simp only [Act.put, List.setIfInBounds_toArray, List.set_cons_zero, List.set_cons_succ]
  refine st_run (v := .bool true) (.bool true) (by kernel_rfl) (by kernel_rfl) rfl ?_
  simp only [Act.put, List.setIfInBounds_toArray, List.set_cons_zero, List.set_cons_succ]
  refine st_run (v := .pointer (some ⟨w.heap.size + 1, 0, none⟩)) (.pointer (some ⟨w.heap.size + 1, 0, none⟩)) (by kernel_rfl) (by kernel_rfl) rfl ?_
  simp only [Act.put, List.setIfInBounds_toArray, List.set_cons_zero, List.set_cons_succ]
  refine st_load M (.tmp 11) ⟨w.heap.size + 1, 0, none⟩ (by kernel_rfl) rfl (by kernel_rfl) d0 ?_
  simp only [Act.put, List.setIfInBounds_toArray, List.set_cons_zero, List.set_cons_succ]
  refine st_run (v := .pointer (some ⟨w.heap.size + 1, 1, none⟩)) (.pointer (some ⟨w.heap.size + 1, 1, none⟩)) (by kernel_rfl) (by kernel_rfl) rfl ?_
  simp only [Act.put, List.setIfInBounds_toArray, List.set_cons_zero, List.set_cons_succ]
  refine st_load N (.tmp 13) ⟨w.heap.size + 1, 1, none⟩ (by kernel_rfl) rfl (by kernel_rfl) d1 ?_
  simp only [Act.put, List.setIfInBounds_toArray, List.set_cons_zero, List.set_cons_succ]
  refine st_run (v := .bool (decide (M ≤ N))) (.bool true) (by kernel_rfl) (by kernel_rfl) (congrArg Value.bool F2) ?_
  simp only [Act.put, List.setIfInBounds_toArray, List.set_cons_zero, List.set_cons_succ]
  refine st_run (v := .bool true) (.bool true) (by kernel_rfl) (by kernel_rfl) rfl ?_
  simp only [Act.put, List.setIfInBounds_toArray, List.set_cons_zero, List.set_cons_succ]
  refine st_run (v := .bool true) (.bool true) (by kernel_rfl) (by kernel_rfl) rfl ?_
  simp only [Act.put, List.setIfInBounds_toArray, List.set_cons_zero, List.set_cons_succ]
  refine st_run (v := .pointer (some ⟨w.heap.size, 0, none⟩)) (.pointer (some ⟨w.heap.size, 0, none⟩)) (by kernel_rfl) (by kernel_rfl) rfl ?_
  simp only [Act.put, List.setIfInBounds_toArray, List.set_cons_zero, List.set_cons_succ]
  refine st_load m (.tmp 18) ⟨w.heap.size, 0, none⟩ (by kernel_rfl) rfl (by kernel_rfl) c0 ?_
  simp only [Act.put, List.setIfInBounds_toArray, List.set_cons_zero, List.set_cons_succ]
  refine st_run (v := .bool (decide (0 ≤ m))) (.bool true) (by kernel_rfl) (by kernel_rfl) (congrArg Value.bool F3) ?_
  simp only [Act.put, List.setIfInBounds_toArray, List.set_cons_zero, List.set_cons_succ]
  refine st_run (v := .bool true) (.bool true) (by kernel_rfl) (by kernel_rfl) rfl ?_
  simp only [Act.put, List.setIfInBounds_toArray, List.set_cons_zero, List.set_cons_succ]
  refine st_run (v := .bool true) (.bool true) (by kernel_rfl) (by kernel_rfl) rfl ?_
  simp only [Act.put, List.setIfInBounds_toArray, List.set_cons_zero, List.set_cons_succ]
  refine st_run (v := .pointer (some ⟨w.heap.size, 1, none⟩)) (.pointer (some ⟨w.heap.size, 1, none⟩)) (by kernel_rfl) (by kernel_rfl) rfl ?_
  simp only [Act.put, List.setIfInBounds_toArray, List.set_cons_zero, List.set_cons_succ]
  refine st_load n (.tmp 23) ⟨w.heap.size, 1, none⟩ (by kernel_rfl) rfl (by kernel_rfl) c1 ?_
  simp only [Act.put, List.setIfInBounds_toArray, List.set_cons_zero, List.set_cons_succ]
  refine st_run (v := .bool (decide (n < 1099511627776))) (.bool true) (by kernel_rfl) (by kernel_rfl) (congrArg Value.bool F4) ?_
  simp only [Act.put, List.setIfInBounds_toArray, List.set_cons_zero, List.set_cons_succ]
  refine st_run (v := .bool true) (.bool true) (by kernel_rfl) (by kernel_rfl) rfl ?_
  simp only [Act.put, List.setIfInBounds_toArray, List.set_cons_zero, List.set_cons_succ]
  refine st_run (v := .bool true) (.bool true) (by kernel_rfl) (by kernel_rfl) rfl ?_
  simp only [Act.put, List.setIfInBounds_toArray, List.set_cons_zero, List.set_cons_succ]
  refine st_run (v := .pointer (some ⟨w.heap.size + 1, 0, none⟩)) (.pointer (some ⟨w.heap.size + 1, 0, none⟩)) (by kernel_rfl) (by kernel_rfl) rfl ?_
  simp only [Act.put, List.setIfInBounds_toArray, List.set_cons_zero, List.set_cons_succ]
  refine st_load M (.tmp 28) ⟨w.heap.size + 1, 0, none⟩ (by kernel_rfl) rfl (by kernel_rfl) d0 ?_
  simp only [Act.put, List.setIfInBounds_toArray, List.set_cons_zero, List.set_cons_succ]
  refine st_run (v := .pointer (some ⟨w.heap.size, 0, none⟩)) (.pointer (some ⟨w.heap.size, 0, none⟩)) (by kernel_rfl) (by kernel_rfl) rfl ?_
  simp only [Act.put, List.setIfInBounds_toArray, List.set_cons_zero, List.set_cons_succ]
  refine st_load m (.tmp 30) ⟨w.heap.size, 0, none⟩ (by kernel_rfl) rfl (by kernel_rfl) c0 ?_
  simp only [Act.put, List.setIfInBounds_toArray, List.set_cons_zero, List.set_cons_succ]
  refine st_run (v := .int .i64 (IntKind.i64.wrap (2 * m))) (.int .i64 M) (by kernel_rfl) (by kernel_rfl) (congrArg (Value.int .i64) WM.out) ?_
  simp only [Act.put, List.setIfInBounds_toArray, List.set_cons_zero, List.set_cons_succ]
  refine st_run (v := .bool (M == M)) (.bool true) (by kernel_rfl) (by kernel_rfl) (congrArg Value.bool F5) ?_
  simp only [Act.put, List.setIfInBounds_toArray, List.set_cons_zero, List.set_cons_succ]
  refine st_run (v := .bool true) (.bool true) (by kernel_rfl) (by kernel_rfl) rfl ?_
  simp only [Act.put, List.setIfInBounds_toArray, List.set_cons_zero, List.set_cons_succ]
  refine st_skip (by kernel_rfl) ?_
  simp only [Act.put, List.setIfInBounds_toArray, List.set_cons_zero, List.set_cons_succ]
  refine st_skip (by kernel_rfl) ?_
  simp only [Act.put, List.setIfInBounds_toArray, List.set_cons_zero, List.set_cons_succ]
  refine st_skip (by kernel_rfl) ?_
  simp only [Act.put, List.setIfInBounds_toArray, List.set_cons_zero, List.set_cons_succ]
  refine st_skip (by kernel_rfl) ?_
  simp only [Act.put, List.setIfInBounds_toArray, List.set_cons_zero, List.set_cons_succ]
  refine st_skip (by kernel_rfl) ?_
  simp only [Act.put, List.setIfInBounds_toArray, List.set_cons_zero, List.set_cons_succ]
  refine st_skip (by kernel_rfl) ?_
  simp only [Act.put, List.setIfInBounds_toArray, List.set_cons_zero, List.set_cons_succ]
  refine st_skip (by kernel_rfl) ?_
  simp only [Act.put, List.setIfInBounds_toArray, List.set_cons_zero, List.set_cons_succ]
  refine st_run (v := .bool true) (.bool true) (by kernel_rfl) (by kernel_rfl) rfl ?_
  simp only [Act.put, List.setIfInBounds_toArray, List.set_cons_zero, List.set_cons_succ]
  refine st_run (v := .bool true) (.bool true) (by kernel_rfl) (by kernel_rfl) rfl ?_
  simp only [Act.put, List.setIfInBounds_toArray, List.set_cons_zero, List.set_cons_succ]
  refine st_run (v := .bool true) (.bool true) (by kernel_rfl) (by kernel_rfl) rfl ?_
  simp only [Act.put, List.setIfInBounds_toArray, List.set_cons_zero, List.set_cons_succ]
  refine st_run (v := .pointer (some ⟨w.heap.size + 1, 1, none⟩)) (.pointer (some ⟨w.heap.size + 1, 1, none⟩)) (by kernel_rfl) (by kernel_rfl) rfl ?_
  simp only [Act.put, List.setIfInBounds_toArray, List.set_cons_zero, List.set_cons_succ]
  refine st_load N (.tmp 45) ⟨w.heap.size + 1, 1, none⟩ (by kernel_rfl) rfl (by kernel_rfl) d1 ?_
  simp only [Act.put, List.setIfInBounds_toArray, List.set_cons_zero, List.set_cons_succ]
  refine st_run (v := .pointer (some ⟨w.heap.size, 1, none⟩)) (.pointer (some ⟨w.heap.size, 1, none⟩)) (by kernel_rfl) (by kernel_rfl) rfl ?_
  simp only [Act.put, List.setIfInBounds_toArray, List.set_cons_zero, List.set_cons_succ]
  refine st_load n (.tmp 47) ⟨w.heap.size, 1, none⟩ (by kernel_rfl) rfl (by kernel_rfl) c1 ?_
  simp only [Act.put, List.setIfInBounds_toArray, List.set_cons_zero, List.set_cons_succ]
  refine st_run (v := .int .i64 (IntKind.i64.wrap (2 * n))) (.int .i64 N) (by kernel_rfl) (by kernel_rfl) (congrArg (Value.int .i64) WN.out) ?_
  simp only [Act.put, List.setIfInBounds_toArray, List.set_cons_zero, List.set_cons_succ]
  refine st_run (v := .bool (N == N)) (.bool true) (by kernel_rfl) (by kernel_rfl) (congrArg Value.bool F7) ?_
  simp only [Act.put, List.setIfInBounds_toArray, List.set_cons_zero, List.set_cons_succ]
  refine st_run (v := .bool true) (.bool true) (by kernel_rfl) (by kernel_rfl) rfl ?_
  simp only [Act.put, List.setIfInBounds_toArray, List.set_cons_zero, List.set_cons_succ]
  refine st_skip (by kernel_rfl) ?_
  simp only [Act.put, List.setIfInBounds_toArray, List.set_cons_zero, List.set_cons_succ]
  refine st_skip (by kernel_rfl) ?_
  simp only [Act.put, List.setIfInBounds_toArray, List.set_cons_zero, List.set_cons_succ]
  refine st_skip (by kernel_rfl) ?_
  simp only [Act.put, List.setIfInBounds_toArray, List.set_cons_zero, List.set_cons_succ]
  refine st_skip (by kernel_rfl) ?_
  simp only [Act.put, List.setIfInBounds_toArray, List.set_cons_zero, List.set_cons_succ]
  refine st_skip (by kernel_rfl) ?_
  simp only [Act.put, List.setIfInBounds_toArray, List.set_cons_zero, List.set_cons_succ]
  refine st_skip (by kernel_rfl) ?_
  simp only [Act.put, List.setIfInBounds_toArray, List.set_cons_zero, List.set_cons_succ]
  refine st_skip (by kernel_rfl) ?_
  simp only [Act.put, List.setIfInBounds_toArray, List.set_cons_zero, List.set_cons_succ]
  refine st_run (v := .bool true) (.bool true) (by kernel_rfl) (by kernel_rfl) rfl ?_
  simp only [Act.put, List.setIfInBounds_toArray, List.set_cons_zero, List.set_cons_succ]
  refine st_run (v := .bool true) (.bool true) (by kernel_rfl) (by kernel_rfl) rfl ?_
  simp only [Act.put, List.setIfInBounds_toArray, List.set_cons_zero, List.set_cons_succ]
  refine st_run (v := .bool true) (.bool true) (by kernel_rfl) (by kernel_rfl) rfl ?_
  simp only [Act.put, List.setIfInBounds_toArray, List.set_cons_zero, List.set_cons_succ]
  refine st_run (v := .pointer (some ⟨w.heap.size, 0, none⟩)) (.pointer (some ⟨w.heap.size, 0, none⟩)) (by kernel_rfl) (by kernel_rfl) rfl ?_
  simp only [Act.put, List.setIfInBounds_toArray, List.set_cons_zero, List.set_cons_succ]
  refine st_load m (.tmp 62) ⟨w.heap.size, 0, none⟩ (by kernel_rfl) rfl (by kernel_rfl) c0 ?_
  simp only [Act.put, List.setIfInBounds_toArray, List.set_cons_zero, List.set_cons_succ]
  refine st_run (v := .pointer (some ⟨w.heap.size, 1, none⟩)) (.pointer (some ⟨w.heap.size, 1, none⟩)) (by kernel_rfl) (by kernel_rfl) rfl ?_
  simp only [Act.put, List.setIfInBounds_toArray, List.set_cons_zero, List.set_cons_succ]
  refine st_load n (.tmp 64) ⟨w.heap.size, 1, none⟩ (by kernel_rfl) rfl (by kernel_rfl) c1 ?_
  simp only [Act.put, List.setIfInBounds_toArray, List.set_cons_zero, List.set_cons_succ]
  refine st_run (v := .bool (decide (m < n))) (.bool false) (by kernel_rfl) (by kernel_rfl) (congrArg Value.bool F9) ?_
  simp only [Act.put, List.setIfInBounds_toArray, List.set_cons_zero, List.set_cons_succ]
  refine st_run (v := .bool false) (.bool false) (by kernel_rfl) (by kernel_rfl) rfl ?_
  simp only [Act.put, List.setIfInBounds_toArray, List.set_cons_zero, List.set_cons_succ]
  refine st_run (v := .pointer (some ⟨w.heap.size + 1, 0, none⟩)) (.pointer (some ⟨w.heap.size + 1, 0, none⟩)) (by kernel_rfl) (by kernel_rfl) rfl ?_
  simp only [Act.put, List.setIfInBounds_toArray, List.set_cons_zero, List.set_cons_succ]
  refine st_load M (.tmp 68) ⟨w.heap.size + 1, 0, none⟩ (by kernel_rfl) rfl (by kernel_rfl) d0 ?_
  simp only [Act.put, List.setIfInBounds_toArray, List.set_cons_zero, List.set_cons_succ]
  refine st_run (v := .pointer (some ⟨w.heap.size + 1, 1, none⟩)) (.pointer (some ⟨w.heap.size + 1, 1, none⟩)) (by kernel_rfl) (by kernel_rfl) rfl ?_
  simp only [Act.put, List.setIfInBounds_toArray, List.set_cons_zero, List.set_cons_succ]
  refine st_load N (.tmp 70) ⟨w.heap.size + 1, 1, none⟩ (by kernel_rfl) rfl (by kernel_rfl) d1 ?_
  simp only [Act.put, List.setIfInBounds_toArray, List.set_cons_zero, List.set_cons_succ]
  refine st_run (v := .bool (M == N)) (.bool true) (by kernel_rfl) (by kernel_rfl) (congrArg Value.bool F0) ?_
  simp only [Act.put, List.setIfInBounds_toArray, List.set_cons_zero, List.set_cons_succ]
  refine st_run (v := .bool true) (.bool true) (by kernel_rfl) (by kernel_rfl) rfl ?_
  simp only [Act.put, List.setIfInBounds_toArray, List.set_cons_zero, List.set_cons_succ]
  refine st_run (v := .bool true) (.bool true) (by kernel_rfl) (by kernel_rfl) rfl ?_
  simp only [Act.put, List.setIfInBounds_toArray, List.set_cons_zero, List.set_cons_succ]
  refine st_run (v := .bool true) (.bool true) (by kernel_rfl) (by kernel_rfl) rfl ?_
  simp only [Act.put, List.setIfInBounds_toArray, List.set_cons_zero, List.set_cons_succ]
  refine st_nil ?_
  go_wp2
  go_ret
  exact ⟨rfl, HB.out⟩
set_option maxRecDepth 100000 in
set_option maxHeartbeats 1000000 in
theorem dbl010 (m n q M N : Int) (w : World) (F1 : decide (m ≤ n) = true) (F2 : decide (M ≤ q) = true) (F3 : decide (0 ≤ m) = true) (F4 : decide (n < 1099511627776) = true) (WM : Hid (IntKind.i64.wrap (2 * m) = M)) (WN : Hid (IntKind.i64.wrap (2 * n) = N)) (F5 : (M == M) = true) (F7 : (q == N) = false) (WQ : Hid (IntKind.i64.wrap (N - 1) = q)) (F8 : (q == q) = true) (F9 : decide (m < n) = true) : Calls Tryd.prog 27 #[.agg #[.int .i64 m, .int .i64 n], .agg #[.int .i64 M, .int .i64 q]] w fun e w' => e = .returned (.bool true) ∧ Below w.heap.size w w' := by
  obtain ⟨W, hW⟩ : ∃ W, W = (w.alloc (.cells #[.int .i64 m, .int .i64 n] 55)).alloc (.cells #[.int .i64 M, .int .i64 q] 55) := ⟨_, rfl⟩
  have hb : Below w.heap.size w W := by rw [hW]; exact (belB w (.cells #[.int .i64 m, .int .i64 n] 55)).alloc (by simp) (.cells #[.int .i64 M, .int .i64 q] 55)
  have r0 : RowV W w.heap.size 55 [.int .i64 m, .int .i64 n] := by rw [hW]; exact (RowV.of_alloc w 55 [.int .i64 m, .int .i64 n]).alloc _
  have r1 : RowV W (w.heap.size + 1) 55 [.int .i64 M, .int .i64 q] := by
    have h := RowV.of_alloc (w.alloc (.cells #[.int .i64 m, .int .i64 n] 55)) 55 [.int .i64 M, .int .i64 q]
    rw [World.size_alloc] at h
    rw [hW]; exact h
  have c0 := RowV.c0 r0
  have c1 := RowV.c1 r0
  have d0 := RowV.c0 r1
  have d1 := RowV.c1 r1
  have HB := Lib.hid hb
  have HW := Lib.hid hW
  clear hb hW r0 r1
  go_enter Tryd.func27, Tryd.ntmps27
  go_upto_region 1 with fail
  rw [← HW.out]
  clear HW
  refine st_in ?_
  refine st_run (v := .pointer (some ⟨w.heap.size, 0, none⟩)) (.pointer (some ⟨w.heap.size, 0, none⟩)) (by kernel_rfl) (by kernel_rfl) rfl ?_
  simp only [Act.put, List.setIfInBounds_toArray, List.set_cons_zero, List.set_cons_succ]
  refine st_load m (.tmp 5) ⟨w.heap.size, 0, none⟩ (by kernel_rfl) rfl (by kernel_rfl) c0 ?_
  simp only [Act.put, List.setIfInBounds_toArray, List.set_cons_zero, List.set_cons_succ]
  refine st_run (v := .pointer (some ⟨w.heap.size, 1, none⟩)) (.pointer (some ⟨w.heap.size, 1, none⟩)) (by kernel_rfl) (by kernel_rfl) rfl ?_
  simp only [Act.put, List.setIfInBounds_toArray, List.set_cons_zero, List.set_cons_succ]
  refine st_load n (.tmp 7) ⟨w.heap.size, 1, none⟩ (by kernel_rfl) rfl (by kernel_rfl) c1 ?_
  simp only [Act.put, List.setIfInBounds_toArray, List.set_cons_zero, List.set_cons_succ]
  refine st_run (v := .bool (decide (m ≤ n))) (.bool true) (by kernel_rfl) (by kernel_rfl) (congrArg Value.bool F1) ?_
  simp only [Act.put, List.setIfInBounds_toArray, List.set_cons_zero, List.set_cons_succ]
  refine st_run (v := .bool true) (.bool true) (by kernel_rfl) (by kernel_rfl) rfl ?_
  simp only [Act.put, List.setIfInBounds_toArray, List.set_cons_zero, List.set_cons_succ]
  refine st_run (v := .pointer (some ⟨w.heap.size + 1, 0, none⟩)) (.pointer (some ⟨w.heap.size + 1, 0, none⟩)) (by kernel_rfl) (by kernel_rfl) rfl ?_
  simp only [Act.put, List.setIfInBounds_toArray, List.set_cons_zero, List.set_cons_succ]
  refine st_load M (.tmp 11) ⟨w.heap.size + 1, 0, none⟩ (by kernel_rfl) rfl (by kernel_rfl) d0 ?_
  simp only [Act.put, List.setIfInBounds_toArray, List.set_cons_zero, List.set_cons_succ]
  refine st_run (v := .pointer (some ⟨w.heap.size + 1, 1, none⟩)) (.pointer (some ⟨w.heap.size + 1, 1, none⟩)) (by kernel_rfl) (by kernel_rfl) rfl ?_
  simp only [Act.put, List.setIfInBounds_toArray, List.set_cons_zero, List.set_cons_succ]
  refine st_load q (.tmp 13) ⟨w.heap.size + 1, 1, none⟩ (by kernel_rfl) rfl (by kernel_rfl) d1 ?_
  simp only [Act.put, List.setIfInBounds_toArray, List.set_cons_zero, List.set_cons_succ]
  refine st_run (v := .bool (decide (M ≤ q))) (.bool true) (by kernel_rfl) (by kernel_rfl) (congrArg Value.bool F2) ?_
  simp only [Act.put, List.setIfInBounds_toArray, List.set_cons_zero, List.set_cons_succ]
  refine st_run (v := .bool true) (.bool true) (by kernel_rfl) (by kernel_rfl) rfl ?_
  simp only [Act.put, List.setIfInBounds_toArray, List.set_cons_zero, List.set_cons_succ]
  refine st_run (v := .bool true) (.bool true) (by kernel_rfl) (by kernel_rfl) rfl ?_
  simp only [Act.put, List.setIfInBounds_toArray, List.set_cons_zero, List.set_cons_succ]
  refine st_run (v := .pointer (some ⟨w.heap.size, 0, none⟩)) (.pointer (some ⟨w.heap.size, 0, none⟩)) (by kernel_rfl) (by kernel_rfl) rfl ?_
  simp only [Act.put, List.setIfInBounds_toArray, List.set_cons_zero, List.set_cons_succ]
  refine st_load m (.tmp 18) ⟨w.heap.size, 0, none⟩ (by kernel_rfl) rfl (by kernel_rfl) c0 ?_
  simp only [Act.put, List.setIfInBounds_toArray, List.set_cons_zero, List.set_cons_succ]
  refine st_run (v := .bool (decide (0 ≤ m))) (.bool true) (by kernel_rfl) (by kernel_rfl) (congrArg Value.bool F3) ?_
  simp only [Act.put, List.setIfInBounds_toArray, List.set_cons_zero, List.set_cons_succ]
  refine st_run (v := .bool true) (.bool true) (by kernel_rfl) (by kernel_rfl) rfl ?_
  simp only [Act.put, List.setIfInBounds_toArray, List.set_cons_zero, List.set_cons_succ]
  refine st_run (v := .bool true) (.bool true) (by kernel_rfl) (by kernel_rfl) rfl ?_
  simp only [Act.put, List.setIfInBounds_toArray, List.set_cons_zero, List.set_cons_succ]
  refine st_run (v := .pointer (some ⟨w.heap.size, 1, none⟩)) (.pointer (some ⟨w.heap.size, 1, none⟩)) (by kernel_rfl) (by kernel_rfl) rfl ?_
  simp only [Act.put, List.setIfInBounds_toArray, List.set_cons_zero, List.set_cons_succ]
  refine st_load n (.tmp 23) ⟨w.heap.size, 1, none⟩ (by kernel_rfl) rfl (by kernel_rfl) c1 ?_
  simp only [Act.put, List.setIfInBounds_toArray, List.set_cons_zero, List.set_cons_succ]
  refine st_run (v := .bool (decide (n < 1099511627776))) (.bool true) (by kernel_rfl) (by kernel_rfl) (congrArg Value.bool F4) ?_
  simp only [Act.put, List.setIfInBounds_toArray, List.set_cons_zero, List.set_cons_succ]
  refine st_run (v := .bool true) (.bool true) (by kernel_rfl) (by kernel_rfl) rfl ?_
  simp only [Act.put, List.setIfInBounds_toArray, List.set_cons_zero, List.set_cons_succ]
  refine st_run (v := .bool true) (.bool true) (by kernel_rfl) (by kernel_rfl) rfl ?_
  simp only [Act.put, List.setIfInBounds_toArray, List.set_cons_zero, List.set_cons_succ]
  refine st_run (v := .pointer (some ⟨w.heap.size + 1, 0, none⟩)) (.pointer (some ⟨w.heap.size + 1, 0, none⟩)) (by kernel_rfl) (by kernel_rfl) rfl ?_
  simp only [Act.put, List.setIfInBounds_toArray, List.set_cons_zero, List.set_cons_succ]
  refine st_load M (.tmp 28) ⟨w.heap.size + 1, 0, none⟩ (by kernel_rfl) rfl (by kernel_rfl) d0 ?_
  simp only [Act.put, List.setIfInBounds_toArray, List.set_cons_zero, List.set_cons_succ]
  refine st_run (v := .pointer (some ⟨w.heap.size, 0, none⟩)) (.pointer (some ⟨w.heap.size, 0, none⟩)) (by kernel_rfl) (by kernel_rfl) rfl ?_
  simp only [Act.put, List.setIfInBounds_toArray, List.set_cons_zero, List.set_cons_succ]
  refine st_load m (.tmp 30) ⟨w.heap.size, 0, none⟩ (by kernel_rfl) rfl (by kernel_rfl) c0 ?_
  simp only [Act.put, List.setIfInBounds_toArray, List.set_cons_zero, List.set_cons_succ]
  refine st_run (v := .int .i64 (IntKind.i64.wrap (2 * m))) (.int .i64 M) (by kernel_rfl) (by kernel_rfl) (congrArg (Value.int .i64) WM.out) ?_
  simp only [Act.put, List.setIfInBounds_toArray, List.set_cons_zero, List.set_cons_succ]
  refine st_run (v := .bool (M == M)) (.bool true) (by kernel_rfl) (by kernel_rfl) (congrArg Value.bool F5) ?_
  simp only [Act.put, List.setIfInBounds_toArray, List.set_cons_zero, List.set_cons_succ]
  refine st_run (v := .bool true) (.bool true) (by kernel_rfl) (by kernel_rfl) rfl ?_
  simp only [Act.put, List.setIfInBounds_toArray, List.set_cons_zero, List.set_cons_succ]
  refine st_skip (by kernel_rfl) ?_
  simp only [Act.put, List.setIfInBounds_toArray, List.set_cons_zero, List.set_cons_succ]
  refine st_skip (by kernel_rfl) ?_
  simp only [Act.put, List.setIfInBounds_toArray, List.set_cons_zero, List.set_cons_succ]
  refine st_skip (by kernel_rfl) ?_
  simp only [Act.put, List.setIfInBounds_toArray, List.set_cons_zero, List.set_cons_succ]
  refine st_skip (by kernel_rfl) ?_
  simp only [Act.put, List.setIfInBounds_toArray, List.set_cons_zero, List.set_cons_succ]
  refine st_skip (by kernel_rfl) ?_
  simp only [Act.put, List.setIfInBounds_toArray, List.set_cons_zero, List.set_cons_succ]
  refine st_skip (by kernel_rfl) ?_
  simp only [Act.put, List.setIfInBounds_toArray, List.set_cons_zero, List.set_cons_succ]
  refine st_skip (by kernel_rfl) ?_
  simp only [Act.put, List.setIfInBounds_toArray, List.set_cons_zero, List.set_cons_succ]
  refine st_run (v := .bool true) (.bool true) (by kernel_rfl) (by kernel_rfl) rfl ?_
  simp only [Act.put, List.setIfInBounds_toArray, List.set_cons_zero, List.set_cons_succ]
  refine st_run (v := .bool true) (.bool true) (by kernel_rfl) (by kernel_rfl) rfl ?_
  simp only [Act.put, List.setIfInBounds_toArray, List.set_cons_zero, List.set_cons_succ]
  refine st_run (v := .bool true) (.bool true) (by kernel_rfl) (by kernel_rfl) rfl ?_
  simp only [Act.put, List.setIfInBounds_toArray, List.set_cons_zero, List.set_cons_succ]
  refine st_run (v := .pointer (some ⟨w.heap.size + 1, 1, none⟩)) (.pointer (some ⟨w.heap.size + 1, 1, none⟩)) (by kernel_rfl) (by kernel_rfl) rfl ?_
  simp only [Act.put, List.setIfInBounds_toArray, List.set_cons_zero, List.set_cons_succ]
  refine st_load q (.tmp 45) ⟨w.heap.size + 1, 1, none⟩ (by kernel_rfl) rfl (by kernel_rfl) d1 ?_
  simp only [Act.put, List.setIfInBounds_toArray, List.set_cons_zero, List.set_cons_succ]
  refine st_run (v := .pointer (some ⟨w.heap.size, 1, none⟩)) (.pointer (some ⟨w.heap.size, 1, none⟩)) (by kernel_rfl) (by kernel_rfl) rfl ?_
  simp only [Act.put, List.setIfInBounds_toArray, List.set_cons_zero, List.set_cons_succ]
  refine st_load n (.tmp 47) ⟨w.heap.size, 1, none⟩ (by kernel_rfl) rfl (by kernel_rfl) c1 ?_
  simp only [Act.put, List.setIfInBounds_toArray, List.set_cons_zero, List.set_cons_succ]
  refine st_run (v := .int .i64 (IntKind.i64.wrap (2 * n))) (.int .i64 N) (by kernel_rfl) (by kernel_rfl) (congrArg (Value.int .i64) WN.out) ?_
  simp only [Act.put, List.setIfInBounds_toArray, List.set_cons_zero, List.set_cons_succ]
  refine st_run (v := .bool (q == N)) (.bool false) (by kernel_rfl) (by kernel_rfl) (congrArg Value.bool F7) ?_
  simp only [Act.put, List.setIfInBounds_toArray, List.set_cons_zero, List.set_cons_succ]
  refine st_run (v := .bool false) (.bool false) (by kernel_rfl) (by kernel_rfl) rfl ?_
  simp only [Act.put, List.setIfInBounds_toArray, List.set_cons_zero, List.set_cons_succ]
  refine st_run (v := .pointer (some ⟨w.heap.size + 1, 1, none⟩)) (.pointer (some ⟨w.heap.size + 1, 1, none⟩)) (by kernel_rfl) (by kernel_rfl) rfl ?_
  simp only [Act.put, List.setIfInBounds_toArray, List.set_cons_zero, List.set_cons_succ]
  refine st_load q (.tmp 52) ⟨w.heap.size + 1, 1, none⟩ (by kernel_rfl) rfl (by kernel_rfl) d1 ?_
  simp only [Act.put, List.setIfInBounds_toArray, List.set_cons_zero, List.set_cons_succ]
  refine st_run (v := .pointer (some ⟨w.heap.size, 1, none⟩)) (.pointer (some ⟨w.heap.size, 1, none⟩)) (by kernel_rfl) (by kernel_rfl) rfl ?_
  simp only [Act.put, List.setIfInBounds_toArray, List.set_cons_zero, List.set_cons_succ]
  refine st_load n (.tmp 54) ⟨w.heap.size, 1, none⟩ (by kernel_rfl) rfl (by kernel_rfl) c1 ?_
  simp only [Act.put, List.setIfInBounds_toArray, List.set_cons_zero, List.set_cons_succ]
  refine st_run (v := .int .i64 (IntKind.i64.wrap (2 * n))) (.int .i64 N) (by kernel_rfl) (by kernel_rfl) (congrArg (Value.int .i64) WN.out) ?_
  simp only [Act.put, List.setIfInBounds_toArray, List.set_cons_zero, List.set_cons_succ]
  refine st_run (v := .int .i64 (IntKind.i64.wrap (N - 1))) (.int .i64 q) (by kernel_rfl) (by kernel_rfl) (congrArg (Value.int .i64) WQ.out) ?_
  simp only [Act.put, List.setIfInBounds_toArray, List.set_cons_zero, List.set_cons_succ]
  refine st_run (v := .bool (q == q)) (.bool true) (by kernel_rfl) (by kernel_rfl) (congrArg Value.bool F8) ?_
  simp only [Act.put, List.setIfInBounds_toArray, List.set_cons_zero, List.set_cons_succ]
  refine st_run (v := .bool true) (.bool true) (by kernel_rfl) (by kernel_rfl) rfl ?_
  simp only [Act.put, List.setIfInBounds_toArray, List.set_cons_zero, List.set_cons_succ]
  refine st_run (v := .bool true) (.bool true) (by kernel_rfl) (by kernel_rfl) rfl ?_
  simp only [Act.put, List.setIfInBounds_toArray, List.set_cons_zero, List.set_cons_succ]
  refine st_run (v := .bool true) (.bool true) (by kernel_rfl) (by kernel_rfl) rfl ?_
  simp only [Act.put, List.setIfInBounds_toArray, List.set_cons_zero, List.set_cons_succ]
  refine st_run (v := .pointer (some ⟨w.heap.size, 0, none⟩)) (.pointer (some ⟨w.heap.size, 0, none⟩)) (by kernel_rfl) (by kernel_rfl) rfl ?_
  simp only [Act.put, List.setIfInBounds_toArray, List.set_cons_zero, List.set_cons_succ]
  refine st_load m (.tmp 62) ⟨w.heap.size, 0, none⟩ (by kernel_rfl) rfl (by kernel_rfl) c0 ?_
  simp only [Act.put, List.setIfInBounds_toArray, List.set_cons_zero, List.set_cons_succ]
  refine st_run (v := .pointer (some ⟨w.heap.size, 1, none⟩)) (.pointer (some ⟨w.heap.size, 1, none⟩)) (by kernel_rfl) (by kernel_rfl) rfl ?_
  simp only [Act.put, List.setIfInBounds_toArray, List.set_cons_zero, List.set_cons_succ]
  refine st_load n (.tmp 64) ⟨w.heap.size, 1, none⟩ (by kernel_rfl) rfl (by kernel_rfl) c1 ?_
  simp only [Act.put, List.setIfInBounds_toArray, List.set_cons_zero, List.set_cons_succ]
  refine st_run (v := .bool (decide (m < n))) (.bool true) (by kernel_rfl) (by kernel_rfl) (congrArg Value.bool F9) ?_
  simp only [Act.put, List.setIfInBounds_toArray, List.set_cons_zero, List.set_cons_succ]
  refine st_run (v := .bool true) (.bool true) (by kernel_rfl) (by kernel_rfl) rfl ?_
  simp only [Act.put, List.setIfInBounds_toArray, List.set_cons_zero, List.set_cons_succ]
  refine st_skip (by kernel_rfl) ?_
  simp only [Act.put, List.setIfInBounds_toArray, List.set_cons_zero, List.set_cons_succ]
  refine st_skip (by kernel_rfl) ?_
  simp only [Act.put, List.setIfInBounds_toArray, List.set_cons_zero, List.set_cons_succ]
  refine st_skip (by kernel_rfl) ?_
  simp only [Act.put, List.setIfInBounds_toArray, List.set_cons_zero, List.set_cons_succ]
  refine st_skip (by kernel_rfl) ?_
  simp only [Act.put, List.setIfInBounds_toArray, List.set_cons_zero, List.set_cons_succ]
  refine st_skip (by kernel_rfl) ?_
  simp only [Act.put, List.setIfInBounds_toArray, List.set_cons_zero, List.set_cons_succ]
  refine st_run (v := .bool true) (.bool true) (by kernel_rfl) (by kernel_rfl) rfl ?_
  simp only [Act.put, List.setIfInBounds_toArray, List.set_cons_zero, List.set_cons_succ]
  refine st_run (v := .bool true) (.bool true) (by kernel_rfl) (by kernel_rfl) rfl ?_
  simp only [Act.put, List.setIfInBounds_toArray, List.set_cons_zero, List.set_cons_succ]
  refine st_run (v := .bool true) (.bool true) (by kernel_rfl) (by kernel_rfl) rfl ?_
  simp only [Act.put, List.setIfInBounds_toArray, List.set_cons_zero, List.set_cons_succ]
  refine st_nil ?_
  go_wp2
  go_ret
  exact ⟨rfl, HB.out⟩
set_option maxRecDepth 100000 in
set_option maxHeartbeats 1000000 in
theorem dbl011 (m n q M N : Int) (w : World) (F1 : decide (m ≤ n) = true) (F2 : decide (M ≤ q) = true) (F3 : decide (0 ≤ m) = true) (F4 : decide (n < 1099511627776) = true) (WM : Hid (IntKind.i64.wrap (2 * m) = M)) (WN : Hid (IntKind.i64.wrap (2 * n) = N)) (F5 : (M == M) = true) (F7 : (q == N) = false) (WQ : Hid (IntKind.i64.wrap (N - 1) = q)) (F8 : (q == q) = true) (F9 : decide (m < n) = false) (F0 : (M == q) = true) : Calls Tryd.prog 27 #[.agg #[.int .i64 m, .int .i64 n], .agg #[.int .i64 M, .int .i64 q]] w fun e w' => e = .returned (.bool true) ∧ Below w.heap.size w w' := by
  obtain ⟨W, hW⟩ : ∃ W, W = (w.alloc (.cells #[.int .i64 m, .int .i64 n] 55)).alloc (.cells #[.int .i64 M, .int .i64 q] 55) := ⟨_, rfl⟩
  have hb : Below w.heap.size w W := by rw [hW]; exact (belB w (.cells #[.int .i64 m, .int .i64 n] 55)).alloc (by simp) (.cells #[.int .i64 M, .int .i64 q] 55)
  have r0 : RowV W w.heap.size 55 [.int .i64 m, .int .i64 n] := by rw [hW]; exact (RowV.of_alloc w 55 [.int .i64 m, .int .i64 n]).alloc _
  have r1 : RowV W (w.heap.size + 1) 55 [.int .i64 M, .int .i64 q] := by
    have h := RowV.of_alloc (w.alloc (.cells #[.int .i64 m, .int .i64 n] 55)) 55 [.int .i64 M, .int .i64 q]
    rw [World.size_alloc] at h
    rw [hW]; exact h
  have c0 := RowV.c0 r0
  have c1 := RowV.c1 r0
  have d0 := RowV.c0 r1
  have d1 := RowV.c1 r1
  have HB := Lib.hid hb
  have HW := Lib.hid hW
  clear hb hW r0 r1
  go_enter Tryd.func27, Tryd.ntmps27
  go_upto_region 1 with fail
  rw [← HW.out]
  clear HW
  refine st_in ?_
  refine st_run (v := .pointer (some ⟨w.heap.size, 0, none⟩)) (.pointer (some ⟨w.heap.size, 0, none⟩)) (by kernel_rfl) (by kernel_rfl) rfl ?_
  simp only [Act.put, List.setIfInBounds_toArray, List.set_cons_zero, List.set_cons_succ]
  refine st_load m (.tmp 5) ⟨w.heap.size, 0, none⟩ (by kernel_rfl) rfl (by kernel_rfl) c0 ?_
  simp only [Act.put, List.setIfInBounds_toArray, List.set_cons_zero, List.set_cons_succ]
  refine st_run (v := .pointer (some ⟨w.heap.size, 1, none⟩)) (.pointer (some ⟨w.heap.size, 1, none⟩)) (by kernel_rfl) (by kernel_rfl) rfl ?_
  simp only [Act.put, List.setIfInBounds_toArray, List.set_cons_zero, List.set_cons_succ]
  refine st_load n (.tmp 7) ⟨w.heap.size, 1, none⟩ (by kernel_rfl) rfl (by kernel_rfl) c1 ?_
  simp only [Act.put, List.setIfInBounds_toArray, List.set_cons_zero, List.set_cons_succ]
  refine st_run (v := .bool (decide (m ≤ n))) (.bool true) (by kernel_rfl) (by kernel_rfl) (congrArg Value.bool F1) ?_
  simp only [Act.put, List.setIfInBounds_toArray, List.set_cons_zero, List.set_cons_succ]
  refine st_run (v := .bool true) (.bool true) (by kernel_rfl) (by kernel_rfl) rfl ?_
  simp only [Act.put, List.setIfInBounds_toArray, List.set_cons_zero, List.set_cons_succ]
  refine st_run (v := .pointer (some ⟨w.heap.size + 1, 0, none⟩)) (.pointer (some ⟨w.heap.size + 1, 0, none⟩)) (by kernel_rfl) (by kernel_rfl) rfl ?_
  simp only [Act.put, List.setIfInBounds_toArray, List.set_cons_zero, List.set_cons_succ]
  refine st_load M (.tmp 11) ⟨w.heap.size + 1, 0, none⟩ (by kernel_rfl) rfl (by kernel_rfl) d0 ?_
  simp only [Act.put, List.setIfInBounds_toArray, List.set_cons_zero, List.set_cons_succ]
  refine st_run (v := .pointer (some ⟨w.heap.size + 1, 1, none⟩)) (.pointer (some ⟨w.heap.size + 1, 1, none⟩)) (by kernel_rfl) (by kernel_rfl) rfl ?_
  simp only [Act.put, List.setIfInBounds_toArray, List.set_cons_zero, List.set_cons_succ]
  refine st_load q (.tmp 13) ⟨w.heap.size + 1, 1, none⟩ (by kernel_rfl) rfl (by kernel_rfl) d1 ?_
  simp only [Act.put, List.setIfInBounds_toArray, List.set_cons_zero, List.set_cons_succ]
  refine st_run (v := .bool (decide (M ≤ q))) (.bool true) (by kernel_rfl) (by kernel_rfl) (congrArg Value.bool F2) ?_
  simp only [Act.put, List.setIfInBounds_toArray, List.set_cons_zero, List.set_cons_succ]
  refine st_run (v := .bool true) (.bool true) (by kernel_rfl) (by kernel_rfl) rfl ?_
  simp only [Act.put, List.setIfInBounds_toArray, List.set_cons_zero, List.set_cons_succ]
  refine st_run (v := .bool true) (.bool true) (by kernel_rfl) (by kernel_rfl) rfl ?_
  simp only [Act.put, List.setIfInBounds_toArray, List.set_cons_zero, List.set_cons_succ]
  refine st_run (v := .pointer (some ⟨w.heap.size, 0, none⟩)) (.pointer (some ⟨w.heap.size, 0, none⟩)) (by kernel_rfl) (by kernel_rfl) rfl ?_
  simp only [Act.put, List.setIfInBounds_toArray, List.set_cons_zero, List.set_cons_succ]
  refine st_load m (.tmp 18) ⟨w.heap.size, 0, none⟩ (by kernel_rfl) rfl (by kernel_rfl) c0 ?_
  simp only [Act.put, List.setIfInBounds_toArray, List.set_cons_zero, List.set_cons_succ]
  refine st_run (v := .bool (decide (0 ≤ m))) (.bool true) (by kernel_rfl) (by kernel_rfl) (congrArg Value.bool F3) ?_
  simp only [Act.put, List.setIfInBounds_toArray, List.set_cons_zero, List.set_cons_succ]
  refine st_run (v := .bool true) (.bool true) (by kernel_rfl) (by kernel_rfl) rfl ?_
  simp only [Act.put, List.setIfInBounds_toArray, List.set_cons_zero, List.set_cons_succ]
  refine st_run (v := .bool true) (.bool true) (by kernel_rfl) (by kernel_rfl) rfl ?_
  simp only [Act.put, List.setIfInBounds_toArray, List.set_cons_zero, List.set_cons_succ]
  refine st_run (v := .pointer (some ⟨w.heap.size, 1, none⟩)) (.pointer (some ⟨w.heap.size, 1, none⟩)) (by kernel_rfl) (by kernel_rfl) rfl ?_
  simp only [Act.put, List.setIfInBounds_toArray, List.set_cons_zero, List.set_cons_succ]
  refine st_load n (.tmp 23) ⟨w.heap.size, 1, none⟩ (by kernel_rfl) rfl (by kernel_rfl) c1 ?_
  simp only [Act.put, List.setIfInBounds_toArray, List.set_cons_zero, List.set_cons_succ]
  refine st_run (v := .bool (decide (n < 1099511627776))) (.bool true) (by kernel_rfl) (by kernel_rfl) (congrArg Value.bool F4) ?_
  simp only [Act.put, List.setIfInBounds_toArray, List.set_cons_zero, List.set_cons_succ]
  refine st_run (v := .bool true) (.bool true) (by kernel_rfl) (by kernel_rfl) rfl ?_
  simp only [Act.put, List.setIfInBounds_toArray, List.set_cons_zero, List.set_cons_succ]
  refine st_run (v := .bool true) (.bool true) (by kernel_rfl) (by kernel_rfl) rfl ?_
  simp only [Act.put, List.setIfInBounds_toArray, List.set_cons_zero, List.set_cons_succ]
  refine st_run (v := .pointer (some ⟨w.heap.size + 1, 0, none⟩)) (.pointer (some ⟨w.heap.size + 1, 0, none⟩)) (by kernel_rfl) (by kernel_rfl) rfl ?_
  simp only [Act.put, List.setIfInBounds_toArray, List.set_cons_zero, List.set_cons_succ]
  refine st_load M (.tmp 28) ⟨w.heap.size + 1, 0, none⟩ (by kernel_rfl) rfl (by kernel_rfl) d0 ?_
  simp only [Act.put, List.setIfInBounds_toArray, List.set_cons_zero, List.set_cons_succ]
  refine st_run (v := .pointer (some ⟨w.heap.size, 0, none⟩)) (.pointer (some ⟨w.heap.size, 0, none⟩)) (by kernel_rfl) (by kernel_rfl) rfl ?_
  simp only [Act.put, List.setIfInBounds_toArray, List.set_cons_zero, List.set_cons_succ]
  refine st_load m (.tmp 30) ⟨w.heap.size, 0, none⟩ (by kernel_rfl) rfl (by kernel_rfl) c0 ?_
  simp only [Act.put, List.setIfInBounds_toArray, List.set_cons_zero, List.set_cons_succ]
  refine st_run (v := .int .i64 (IntKind.i64.wrap (2 * m))) (.int .i64 M) (by kernel_rfl) (by kernel_rfl) (congrArg (Value.int .i64) WM.out) ?_
  simp only [Act.put, List.setIfInBounds_toArray, List.set_cons_zero, List.set_cons_succ]
  refine st_run (v := .bool (M == M)) (.bool true) (by kernel_rfl) (by kernel_rfl) (congrArg Value.bool F5) ?_
  simp only [Act.put, List.setIfInBounds_toArray, List.set_cons_zero, List.set_cons_succ]
  refine st_run (v := .bool true) (.bool true) (by kernel_rfl) (by kernel_rfl) rfl ?_
  simp only [Act.put, List.setIfInBounds_toArray, List.set_cons_zero, List.set_cons_succ]
  refine st_skip (by kernel_rfl) ?_
  simp only [Act.put, List.setIfInBounds_toArray, List.set_cons_zero, List.set_cons_succ]
  refine st_skip (by kernel_rfl) ?_
  simp only [Act.put, List.setIfInBounds_toArray, List.set_cons_zero, List.set_cons_succ]
  refine st_skip (by kernel_rfl) ?_
  simp only [Act.put, List.setIfInBounds_toArray, List.set_cons_zero, List.set_cons_succ]
  refine st_skip (by kernel_rfl) ?_
  simp only [Act.put, List.setIfInBounds_toArray, List.set_cons_zero, List.set_cons_succ]
  refine st_skip (by kernel_rfl) ?_
  simp only [Act.put, List.setIfInBounds_toArray, List.set_cons_zero, List.set_cons_succ]
  refine st_skip (by kernel_rfl) ?_
  simp only [Act.put, List.setIfInBounds_toArray, List.set_cons_zero, List.set_cons_succ]
  refine st_skip (by kernel_rfl) ?_
  simp only [Act.put, List.setIfInBounds_toArray, List.set_cons_zero, List.set_cons_succ]
  refine st_run (v := .bool true) (.bool true) (by kernel_rfl) (by kernel_rfl) rfl ?_
  simp only [Act.put, List.setIfInBounds_toArray, List.set_cons_zero, List.set_cons_succ]
  refine st_run (v := .bool true) (.bool true) (by kernel_rfl) (by kernel_rfl) rfl ?_
  simp only [Act.put, List.setIfInBounds_toArray, List.set_cons_zero, List.set_cons_succ]
  refine st_run (v := .bool true) (.bool true) (by kernel_rfl) (by kernel_rfl) rfl ?_
  simp only [Act.put, List.setIfInBounds_toArray, List.set_cons_zero, List.set_cons_succ]
  refine st_run (v := .pointer (some ⟨w.heap.size + 1, 1, none⟩)) (.pointer (some ⟨w.heap.size + 1, 1, none⟩)) (by kernel_rfl) (by kernel_rfl) rfl ?_
  simp only [Act.put, List.setIfInBounds_toArray, List.set_cons_zero, List.set_cons_succ]
  refine st_load q (.tmp 45) ⟨w.heap.size + 1, 1, none⟩ (by kernel_rfl) rfl (by kernel_rfl) d1 ?_
  simp only [Act.put, List.setIfInBounds_toArray, List.set_cons_zero, List.set_cons_succ]
  refine st_run (v := .pointer (some ⟨w.heap.size, 1, none⟩)) (.pointer (some ⟨w.heap.size, 1, none⟩)) (by kernel_rfl) (by kernel_rfl) rfl ?_
  simp only [Act.put, List.setIfInBounds_toArray, List.set_cons_zero, List.set_cons_succ]
  refine st_load n (.tmp 47) ⟨w.heap.size, 1, none⟩ (by kernel_rfl) rfl (by kernel_rfl) c1 ?_
  simp only [Act.put, List.setIfInBounds_toArray, List.set_cons_zero, List.set_cons_succ]
  refine st_run (v := .int .i64 (IntKind.i64.wrap (2 * n))) (.int .i64 N) (by kernel_rfl) (by kernel_rfl) (congrArg (Value.int .i64) WN.out) ?_
  simp only [Act.put, List.setIfInBounds_toArray, List.set_cons_zero, List.set_cons_succ]
  refine st_run (v := .bool (q == N)) (.bool false) (by kernel_rfl) (by kernel_rfl) (congrArg Value.bool F7) ?_
  simp only [Act.put, List.setIfInBounds_toArray, List.set_cons_zero, List.set_cons_succ]
  refine st_run (v := .bool false) (.bool false) (by kernel_rfl) (by kernel_rfl) rfl ?_
  simp only [Act.put, List.setIfInBounds_toArray, List.set_cons_zero, List.set_cons_succ]
  refine st_run (v := .pointer (some ⟨w.heap.size + 1, 1, none⟩)) (.pointer (some ⟨w.heap.size + 1, 1, none⟩)) (by kernel_rfl) (by kernel_rfl) rfl ?_
  simp only [Act.put, List.setIfInBounds_toArray, List.set_cons_zero, List.set_cons_succ]
  refine st_load q (.tmp 52) ⟨w.heap.size + 1, 1, none⟩ (by kernel_rfl) rfl (by kernel_rfl) d1 ?_
  simp only [Act.put, List.setIfInBounds_toArray, List.set_cons_zero, List.set_cons_succ]
  refine st_run (v := .pointer (some ⟨w.heap.size, 1, none⟩)) (.pointer (some ⟨w.heap.size, 1, none⟩)) (by kernel_rfl) (by kernel_rfl) rfl ?_
  simp only [Act.put, List.setIfInBounds_toArray, List.set_cons_zero, List.set_cons_succ]
  refine st_load n (.tmp 54) ⟨w.heap.size, 1, none⟩ (by kernel_rfl) rfl (by kernel_rfl) c1 ?_
  simp only [Act.put, List.setIfInBounds_toArray, List.set_cons_zero, List.set_cons_succ]
  refine st_run (v := .int .i64 (IntKind.i64.wrap (2 * n))) (.int .i64 N) (by kernel_rfl) (by kernel_rfl) (congrArg (Value.int .i64) WN.out) ?_
  simp only [Act.put, List.setIfInBounds_toArray, List.set_cons_zero, List.set_cons_succ]
  refine st_run (v := .int .i64 (IntKind.i64.wrap (N - 1))) (.int .i64 q) (by kernel_rfl) (by kernel_rfl) (congrArg (Value.int .i64) WQ.out) ?_
  simp only [Act.put, List.setIfInBounds_toArray, List.set_cons_zero, List.set_cons_succ]
  refine st_run (v := .bool (q == q)) (.bool true) (by kernel_rfl) (by kernel_rfl) (congrArg Value.bool F8) ?_
  simp only [Act.put, List.setIfInBounds_toArray, List.set_cons_zero, List.set_cons_succ]
  refine st_run (v := .bool true) (.bool true) (by kernel_rfl) (by kernel_rfl) rfl ?_
  simp only [Act.put, List.setIfInBounds_toArray, List.set_cons_zero, List.set_cons_succ]
  refine st_run (v := .bool true) (.bool true) (by kernel_rfl) (by kernel_rfl) rfl ?_
  simp only [Act.put, List.setIfInBounds_toArray, List.set_cons_zero, List.set_cons_succ]
  refine st_run (v := .bool true) (.bool true) (by kernel_rfl) (by kernel_rfl) rfl ?_
  simp only [Act.put, List.setIfInBounds_toArray, List.set_cons_zero, List.set_cons_succ]
  refine st_run (v := .pointer (some ⟨w.heap.size, 0, none⟩)) (.pointer (some ⟨w.heap.size, 0, none⟩)) (by kernel_rfl) (by kernel_rfl) rfl ?_
  simp only [Act.put, List.setIfInBounds_toArray, List.set_cons_zero, List.set_cons_succ]
  refine st_load m (.tmp 62) ⟨w.heap.size, 0, none⟩ (by kernel_rfl) rfl (by kernel_rfl) c0 ?_
  simp only [Act.put, List.setIfInBounds_toArray, List.set_cons_zero, List.set_cons_succ]
  refine st_run (v := .pointer (some ⟨w.heap.size, 1, none⟩)) (.pointer (some ⟨w.heap.size, 1, none⟩)) (by kernel_rfl) (by kernel_rfl) rfl ?_
  simp only [Act.put, List.setIfInBounds_toArray, List.set_cons_zero, List.set_cons_succ]
  refine st_load n (.tmp 64) ⟨w.heap.size, 1, none⟩ (by kernel_rfl) rfl (by kernel_rfl) c1 ?_
  simp only [Act.put, List.setIfInBounds_toArray, List.set_cons_zero, List.set_cons_succ]
  refine st_run (v := .bool (decide (m < n))) (.bool false) (by kernel_rfl) (by kernel_rfl) (congrArg Value.bool F9) ?_
  simp only [Act.put, List.setIfInBounds_toArray, List.set_cons_zero, List.set_cons_succ]
  refine st_run (v := .bool false) (.bool false) (by kernel_rfl) (by kernel_rfl) rfl ?_
  simp only [Act.put, List.setIfInBounds_toArray, List.set_cons_zero, List.set_cons_succ]
  refine st_run (v := .pointer (some ⟨w.heap.size + 1, 0, none⟩)) (.pointer (some ⟨w.heap.size + 1, 0, none⟩)) (by kernel_rfl) (by kernel_rfl) rfl ?_
  simp only [Act.put, List.setIfInBounds_toArray, List.set_cons_zero, List.set_cons_succ]
  refine st_load M (.tmp 68) ⟨w.heap.size + 1, 0, none⟩ (by kernel_rfl) rfl (by kernel_rfl) d0 ?_
  simp only [Act.put, List.setIfInBounds_toArray, List.set_cons_zero, List.set_cons_succ]
  refine st_run (v := .pointer (some ⟨w.heap.size + 1, 1, none⟩)) (.pointer (some ⟨w.heap.size + 1, 1, none⟩)) (by kernel_rfl) (by kernel_rfl) rfl ?_
  simp only [Act.put, List.setIfInBounds_toArray, List.set_cons_zero, List.set_cons_succ]
  refine st_load q (.tmp 70) ⟨w.heap.size + 1, 1, none⟩ (by kernel_rfl) rfl (by kernel_rfl) d1 ?_
  simp only [Act.put, List.setIfInBounds_toArray, List.set_cons_zero, List.set_cons_succ]
  refine st_run (v := .bool (M == q)) (.bool true) (by kernel_rfl) (by kernel_rfl) (congrArg Value.bool F0) ?_
  simp only [Act.put, List.setIfInBounds_toArray, List.set_cons_zero, List.set_cons_succ]
  refine st_run (v := .bool true) (.bool true) (by kernel_rfl) (by kernel_rfl) rfl ?_
  simp only [Act.put, List.setIfInBounds_toArray, List.set_cons_zero, List.set_cons_succ]
  refine st_run (v := .bool true) (.bool true) (by kernel_rfl) (by kernel_rfl) rfl ?_
  simp only [Act.put, List.setIfInBounds_toArray, List.set_cons_zero, List.set_cons_succ]
  refine st_run (v := .bool true) (.bool true) (by kernel_rfl) (by kernel_rfl) rfl ?_
  simp only [Act.put, List.setIfInBounds_toArray, List.set_cons_zero, List.set_cons_succ]
  refine st_nil ?_
  go_wp2
  go_ret
  exact ⟨rfl, HB.out⟩
set_option maxRecDepth 100000 in
set_option maxHeartbeats 1000000 in
theorem dbl100 (m n p M N : Int) (w : World) (F1 : decide (m ≤ n) = true) (F2 : decide (p ≤ N) = true) (F3 : decide (0 ≤ m) = true) (F4 : decide (n < 1099511627776) = true) (WM : Hid (IntKind.i64.wrap (2 * m) = M)) (WN : Hid (IntKind.i64.wrap (2 * n) = N)) (F5 : (p == M) = false) (WP : Hid (IntKind.i64.wrap (M + 1) = p)) (F6 : (p == p) = true) (F7 : (N == N) = true) (F9 : decide (m < n) = true) : Calls Tryd.prog 27 #[.agg #[.int .i64 m, .int .i64 n], .agg #[.int .i64 p, .int .i64 N]] w fun e w' => e = .returned (.bool true) ∧ Below w.heap.size w w' := by
  obtain ⟨W, hW⟩ : ∃ W, W = (w.alloc (.cells #[.int .i64 m, .int .i64 n] 55)).alloc (.cells #[.int .i64 p, .int .i64 N] 55) := ⟨_, rfl⟩
  have hb : Below w.heap.size w W := by rw [hW]; exact (belB w (.cells #[.int .i64 m, .int .i64 n] 55)).alloc (by simp) (.cells #[.int .i64 p, .int .i64 N] 55)
  have r0 : RowV W w.heap.size 55 [.int .i64 m, .int .i64 n] := by rw [hW]; exact (RowV.of_alloc w 55 [.int .i64 m, .int .i64 n]).alloc _
  have r1 : RowV W (w.heap.size + 1) 55 [.int .i64 p, .int .i64 N] := by
    have h := RowV.of_alloc (w.alloc (.cells #[.int .i64 m, .int .i64 n] 55)) 55 [.int .i64 p, .int .i64 N]
    rw [World.size_alloc] at h
    rw [hW]; exact h
  have c0 := RowV.c0 r0
  have c1 := RowV.c1 r0
  have d0 := RowV.c0 r1
  have d1 := RowV.c1 r1
  have HB := Lib.hid hb
  have HW := Lib.hid hW
  clear hb hW r0 r1
  go_enter Tryd.func27, Tryd.ntmps27
  go_upto_region 1 with fail
  rw [← HW.out]
  clear HW
  refine st_in ?_
  refine st_run (v := .pointer (some ⟨w.heap.size, 0, none⟩)) (.pointer (some ⟨w.heap.size, 0, none⟩)) (by kernel_rfl) (by kernel_rfl) rfl ?_
  simp only [Act.put, List.setIfInBounds_toArray, List.set_cons_zero, List.set_cons_succ]
  refine st_load m (.tmp 5) ⟨w.heap.size, 0, none⟩ (by kernel_rfl) rfl (by kernel_rfl) c0 ?_
  simp only [Act.put, List.setIfInBounds_toArray, List.set_cons_zero, List.set_cons_succ]
  refine st_run (v := .pointer (some ⟨w.heap.size, 1, none⟩)) (.pointer (some ⟨w.heap.size, 1, none⟩)) (by kernel_rfl) (by kernel_rfl) rfl ?_
  simp only [Act.put, List.setIfInBounds_toArray, List.set_cons_zero, List.set_cons_succ]
  refine st_load n (.tmp 7) ⟨w.heap.size, 1, none⟩ (by kernel_rfl) rfl (by kernel_rfl) c1 ?_
  simp only [Act.put, List.setIfInBounds_toArray, List.set_cons_zero, List.set_cons_succ]
  refine st_run (v := .bool (decide (m ≤ n))) (.bool true) (by kernel_rfl) (by kernel_rfl) (congrArg Value.bool F1) ?_
  simp only [Act.put, List.setIfInBounds_toArray, List.set_cons_zero, List.set_cons_succ]
  refine st_run (v := .bool true) (.bool true) (by kernel_rfl) (by kernel_rfl) rfl ?_
  simp only [Act.put, List.setIfInBounds_toArray, List.set_cons_zero, List.set_cons_succ]
  refine st_run (v := .pointer (some ⟨w.heap.size + 1, 0, none⟩)) (.pointer (some ⟨w.heap.size + 1, 0, none⟩)) (by kernel_rfl) (by kernel_rfl) rfl ?_
  simp only [Act.put, List.setIfInBounds_toArray, List.set_cons_zero, List.set_cons_succ]
  refine st_load p (.tmp 11) ⟨w.heap.size + 1, 0, none⟩ (by kernel_rfl) rfl (by kernel_rfl) d0 ?_
  simp only [Act.put, List.setIfInBounds_toArray, List.set_cons_zero, List.set_cons_succ]
  refine st_run (v := .pointer (some ⟨w.heap.size + 1, 1, none⟩)) (.pointer (some ⟨w.heap.size + 1, 1, none⟩)) (by kernel_rfl) (by kernel_rfl) rfl ?_
  simp only [Act.put, List.setIfInBounds_toArray, List.set_cons_zero, List.set_cons_succ]
  refine st_load N (.tmp 13) ⟨w.heap.size + 1, 1, none⟩ (by kernel_rfl) rfl (by kernel_rfl) d1 ?_
  simp only [Act.put, List.setIfInBounds_toArray, List.set_cons_zero, List.set_cons_succ]
  refine st_run (v := .bool (decide (p ≤ N))) (.bool true) (by kernel_rfl) (by kernel_rfl) (congrArg Value.bool F2) ?_
  simp only [Act.put, List.setIfInBounds_toArray, List.set_cons_zero, List.set_cons_succ]
  refine st_run (v := .bool true) (.bool true) (by kernel_rfl) (by kernel_rfl) rfl ?_
  simp only [Act.put, List.setIfInBounds_toArray, List.set_cons_zero, List.set_cons_succ]
  refine st_run (v := .bool true) (.bool true) (by kernel_rfl) (by kernel_rfl) rfl ?_
  simp only [Act.put, List.setIfInBounds_toArray, List.set_cons_zero, List.set_cons_succ]
  refine st_run (v := .pointer (some ⟨w.heap.size, 0, none⟩)) (.pointer (some ⟨w.heap.size, 0, none⟩)) (by kernel_rfl) (by kernel_rfl) rfl ?_
  simp only [Act.put, List.setIfInBounds_toArray, List.set_cons_zero, List.set_cons_succ]
  refine st_load m (.tmp 18) ⟨w.heap.size, 0, none⟩ (by kernel_rfl) rfl (by kernel_rfl) c0 ?_
  simp only [Act.put, List.setIfInBounds_toArray, List.set_cons_zero, List.set_cons_succ]
  refine st_run (v := .bool (decide (0 ≤ m))) (.bool true) (by kernel_rfl) (by kernel_rfl) (congrArg Value.bool F3) ?_
  simp only [Act.put, List.setIfInBounds_toArray, List.set_cons_zero, List.set_cons_succ]
  refine st_run (v := .bool true) (.bool true) (by kernel_rfl) (by kernel_rfl) rfl ?_
  simp only [Act.put, List.setIfInBounds_toArray, List.set_cons_zero, List.set_cons_succ]
  refine st_run (v := .bool true) (.bool true) (by kernel_rfl) (by kernel_rfl) rfl ?_
  simp only [Act.put, List.setIfInBounds_toArray, List.set_cons_zero, List.set_cons_succ]
  refine st_run (v := .pointer (some ⟨w.heap.size, 1, none⟩)) (.pointer (some ⟨w.heap.size, 1, none⟩)) (by kernel_rfl) (by kernel_rfl) rfl ?_
  simp only [Act.put, List.setIfInBounds_toArray, List.set_cons_zero, List.set_cons_succ]
  refine st_load n (.tmp 23) ⟨w.heap.size, 1, none⟩ (by kernel_rfl) rfl (by kernel_rfl) c1 ?_
  simp only [Act.put, List.setIfInBounds_toArray, List.set_cons_zero, List.set_cons_succ]
  refine st_run (v := .bool (decide (n < 1099511627776))) (.bool true) (by kernel_rfl) (by kernel_rfl) (congrArg Value.bool F4) ?_
  simp only [Act.put, List.setIfInBounds_toArray, List.set_cons_zero, List.set_cons_succ]
  refine st_run (v := .bool true) (.bool true) (by kernel_rfl) (by kernel_rfl) rfl ?_
  simp only [Act.put, List.setIfInBounds_toArray, List.set_cons_zero, List.set_cons_succ]
  refine st_run (v := .bool true) (.bool true) (by kernel_rfl) (by kernel_rfl) rfl ?_
  simp only [Act.put, List.setIfInBounds_toArray, List.set_cons_zero, List.set_cons_succ]
  refine st_run (v := .pointer (some ⟨w.heap.size + 1, 0, none⟩)) (.pointer (some ⟨w.heap.size + 1, 0, none⟩)) (by kernel_rfl) (by kernel_rfl) rfl ?_
  simp only [Act.put, List.setIfInBounds_toArray, List.set_cons_zero, List.set_cons_succ]
  refine st_load p (.tmp 28) ⟨w.heap.size + 1, 0, none⟩ (by kernel_rfl) rfl (by kernel_rfl) d0 ?_
  simp only [Act.put, List.setIfInBounds_toArray, List.set_cons_zero, List.set_cons_succ]
  refine st_run (v := .pointer (some ⟨w.heap.size, 0, none⟩)) (.pointer (some ⟨w.heap.size, 0, none⟩)) (by kernel_rfl) (by kernel_rfl) rfl ?_
  simp only [Act.put, List.setIfInBounds_toArray, List.set_cons_zero, List.set_cons_succ]
  refine st_load m (.tmp 30) ⟨w.heap.size, 0, none⟩ (by kernel_rfl) rfl (by kernel_rfl) c0 ?_
  simp only [Act.put, List.setIfInBounds_toArray, List.set_cons_zero, List.set_cons_succ]
  refine st_run (v := .int .i64 (IntKind.i64.wrap (2 * m))) (.int .i64 M) (by kernel_rfl) (by kernel_rfl) (congrArg (Value.int .i64) WM.out) ?_
  simp only [Act.put, List.setIfInBounds_toArray, List.set_cons_zero, List.set_cons_succ]
  refine st_run (v := .bool (p == M)) (.bool false) (by kernel_rfl) (by kernel_rfl) (congrArg Value.bool F5) ?_
  simp only [Act.put, List.setIfInBounds_toArray, List.set_cons_zero, List.set_cons_succ]
  refine st_run (v := .bool false) (.bool false) (by kernel_rfl) (by kernel_rfl) rfl ?_
  simp only [Act.put, List.setIfInBounds_toArray, List.set_cons_zero, List.set_cons_succ]
  refine st_run (v := .pointer (some ⟨w.heap.size + 1, 0, none⟩)) (.pointer (some ⟨w.heap.size + 1, 0, none⟩)) (by kernel_rfl) (by kernel_rfl) rfl ?_
  simp only [Act.put, List.setIfInBounds_toArray, List.set_cons_zero, List.set_cons_succ]
  refine st_load p (.tmp 35) ⟨w.heap.size + 1, 0, none⟩ (by kernel_rfl) rfl (by kernel_rfl) d0 ?_
  simp only [Act.put, List.setIfInBounds_toArray, List.set_cons_zero, List.set_cons_succ]
  refine st_run (v := .pointer (some ⟨w.heap.size, 0, none⟩)) (.pointer (some ⟨w.heap.size, 0, none⟩)) (by kernel_rfl) (by kernel_rfl) rfl ?_
  simp only [Act.put, List.setIfInBounds_toArray, List.set_cons_zero, List.set_cons_succ]
  refine st_load m (.tmp 37) ⟨w.heap.size, 0, none⟩ (by kernel_rfl) rfl (by kernel_rfl) c0 ?_
  simp only [Act.put, List.setIfInBounds_toArray, List.set_cons_zero, List.set_cons_succ]
  refine st_run (v := .int .i64 (IntKind.i64.wrap (2 * m))) (.int .i64 M) (by kernel_rfl) (by kernel_rfl) (congrArg (Value.int .i64) WM.out) ?_
  simp only [Act.put, List.setIfInBounds_toArray, List.set_cons_zero, List.set_cons_succ]
  refine st_run (v := .int .i64 (IntKind.i64.wrap (M + 1))) (.int .i64 p) (by kernel_rfl) (by kernel_rfl) (congrArg (Value.int .i64) WP.out) ?_
  simp only [Act.put, List.setIfInBounds_toArray, List.set_cons_zero, List.set_cons_succ]
  refine st_run (v := .bool (p == p)) (.bool true) (by kernel_rfl) (by kernel_rfl) (congrArg Value.bool F6) ?_
  simp only [Act.put, List.setIfInBounds_toArray, List.set_cons_zero, List.set_cons_succ]
  refine st_run (v := .bool true) (.bool true) (by kernel_rfl) (by kernel_rfl) rfl ?_
  simp only [Act.put, List.setIfInBounds_toArray, List.set_cons_zero, List.set_cons_succ]
  refine st_run (v := .bool true) (.bool true) (by kernel_rfl) (by kernel_rfl) rfl ?_
  simp only [Act.put, List.setIfInBounds_toArray, List.set_cons_zero, List.set_cons_succ]
  refine st_run (v := .bool true) (.bool true) (by kernel_rfl) (by kernel_rfl) rfl ?_
  simp only [Act.put, List.setIfInBounds_toArray, List.set_cons_zero, List.set_cons_succ]
  refine st_run (v := .pointer (some ⟨w.heap.size + 1, 1, none⟩)) (.pointer (some ⟨w.heap.size + 1, 1, none⟩)) (by kernel_rfl) (by kernel_rfl) rfl ?_
  simp only [Act.put, List.setIfInBounds_toArray, List.set_cons_zero, List.set_cons_succ]
  refine st_load N (.tmp 45) ⟨w.heap.size + 1, 1, none⟩ (by kernel_rfl) rfl (by kernel_rfl) d1 ?_
  simp only [Act.put, List.setIfInBounds_toArray, List.set_cons_zero, List.set_cons_succ]
  refine st_run (v := .pointer (some ⟨w.heap.size, 1, none⟩)) (.pointer (some ⟨w.heap.size, 1, none⟩)) (by kernel_rfl) (by kernel_rfl) rfl ?_
  simp only [Act.put, List.setIfInBounds_toArray, List.set_cons_zero, List.set_cons_succ]
  refine st_load n (.tmp 47) ⟨w.heap.size, 1, none⟩ (by kernel_rfl) rfl (by kernel_rfl) c1 ?_
  simp only [Act.put, List.setIfInBounds_toArray, List.set_cons_zero, List.set_cons_succ]
  refine st_run (v := .int .i64 (IntKind.i64.wrap (2 * n))) (.int .i64 N) (by kernel_rfl) (by kernel_rfl) (congrArg (Value.int .i64) WN.out) ?_
  simp only [Act.put, List.setIfInBounds_toArray, List.set_cons_zero, List.set_cons_succ]
  refine st_run (v := .bool (N == N)) (.bool true) (by kernel_rfl) (by kernel_rfl) (congrArg Value.bool F7) ?_
  simp only [Act.put, List.setIfInBounds_toArray, List.set_cons_zero, List.set_cons_succ]
  refine st_run (v := .bool true) (.bool true) (by kernel_rfl) (by kernel_rfl) rfl ?_
  simp only [Act.put, List.setIfInBounds_toArray, List.set_cons_zero, List.set_cons_succ]
  refine st_skip (by kernel_rfl) ?_
  simp only [Act.put, List.setIfInBounds_toArray, List.set_cons_zero, List.set_cons_succ]
  refine st_skip (by kernel_rfl) ?_
  simp only [Act.put, List.setIfInBounds_toArray, List.set_cons_zero, List.set_cons_succ]
  refine st_skip (by kernel_rfl) ?_
  simp only [Act.put, List.setIfInBounds_toArray, List.set_cons_zero, List.set_cons_succ]
  refine st_skip (by kernel_rfl) ?_
  simp only [Act.put, List.setIfInBounds_toArray, List.set_cons_zero, List.set_cons_succ]
  refine st_skip (by kernel_rfl) ?_
  simp only [Act.put, List.setIfInBounds_toArray, List.set_cons_zero, List.set_cons_succ]
  refine st_skip (by kernel_rfl) ?_
  simp only [Act.put, List.setIfInBounds_toArray, List.set_cons_zero, List.set_cons_succ]
  refine st_skip (by kernel_rfl) ?_
  simp only [Act.put, List.setIfInBounds_toArray, List.set_cons_zero, List.set_cons_succ]
  refine st_run (v := .bool true) (.bool true) (by kernel_rfl) (by kernel_rfl) rfl ?_
  simp only [Act.put, List.setIfInBounds_toArray, List.set_cons_zero, List.set_cons_succ]
  refine st_run (v := .bool true) (.bool true) (by kernel_rfl) (by kernel_rfl) rfl ?_
  simp only [Act.put, List.setIfInBounds_toArray, List.set_cons_zero, List.set_cons_succ]
  refine st_run (v := .bool true) (.bool true) (by kernel_rfl) (by kernel_rfl) rfl ?_
  simp only [Act.put, List.setIfInBounds_toArray, List.set_cons_zero, List.set_cons_succ]
  refine st_run (v := .pointer (some ⟨w.heap.size, 0, none⟩)) (.pointer (some ⟨w.heap.size, 0, none⟩)) (by kernel_rfl) (by kernel_rfl) rfl ?_
  simp only [Act.put, List.setIfInBounds_toArray, List.set_cons_zero, List.set_cons_succ]
  refine st_load m (.tmp 62) ⟨w.heap.size, 0, none⟩ (by kernel_rfl) rfl (by kernel_rfl) c0 ?_
  simp only [Act.put, List.setIfInBounds_toArray, List.set_cons_zero, List.set_cons_succ]
  refine st_run (v := .pointer (some ⟨w.heap.size, 1, none⟩)) (.pointer (some ⟨w.heap.size, 1, none⟩)) (by kernel_rfl) (by kernel_rfl) rfl ?_
  simp only [Act.put, List.setIfInBounds_toArray, List.set_cons_zero, List.set_cons_succ]
  refine st_load n (.tmp 64) ⟨w.heap.size, 1, none⟩ (by kernel_rfl) rfl (by kernel_rfl) c1 ?_
  simp only [Act.put, List.setIfInBounds_toArray, List.set_cons_zero, List.set_cons_succ]
  refine st_run (v := .bool (decide (m < n))) (.bool true) (by kernel_rfl) (by kernel_rfl) (congrArg Value.bool F9) ?_
  simp only [Act.put, List.setIfInBounds_toArray, List.set_cons_zero, List.set_cons_succ]
  refine st_run (v := .bool true) (.bool true) (by kernel_rfl) (by kernel_rfl) rfl ?_
  simp only [Act.put, List.setIfInBounds_toArray, List.set_cons_zero, List.set_cons_succ]
  refine st_skip (by kernel_rfl) ?_
  simp only [Act.put, List.setIfInBounds_toArray, List.set_cons_zero, List.set_cons_succ]
  refine st_skip (by kernel_rfl) ?_
  simp only [Act.put, List.setIfInBounds_toArray, List.set_cons_zero, List.set_cons_succ]
  refine st_skip (by kernel_rfl) ?_
  simp only [Act.put, List.setIfInBounds_toArray, List.set_cons_zero, List.set_cons_succ]
  refine st_skip (by kernel_rfl) ?_
  simp only [Act.put, List.setIfInBounds_toArray, List.set_cons_zero, List.set_cons_succ]
  refine st_skip (by kernel_rfl) ?_
  simp only [Act.put, List.setIfInBounds_toArray, List.set_cons_zero, List.set_cons_succ]
  refine st_run (v := .bool true) (.bool true) (by kernel_rfl) (by kernel_rfl) rfl ?_
  simp only [Act.put, List.setIfInBounds_toArray, List.set_cons_zero, List.set_cons_succ]
  refine st_run (v := .bool true) (.bool true) (by kernel_rfl) (by kernel_rfl) rfl ?_
  simp only [Act.put, List.setIfInBounds_toArray, List.set_cons_zero, List.set_cons_succ]
  refine st_run (v := .bool true) (.bool true) (by kernel_rfl) (by kernel_rfl) rfl ?_
  simp only [Act.put, List.setIfInBounds_toArray, List.set_cons_zero, List.set_cons_succ]
  refine st_nil ?_
  go_wp2
  go_ret
  exact ⟨rfl, HB.out⟩
set_option maxRecDepth 100000 in
set_option maxHeartbeats 1000000 in
theorem dbl101 (m n p M N : Int) (w : World) (F1 : decide (m ≤ n) = true) (F2 : decide (p ≤ N) = true) (F3 : decide (0 ≤ m) = true) (F4 : decide (n < 1099511627776) = true) (WM : Hid (IntKind.i64.wrap (2 * m) = M)) (WN : Hid (IntKind.i64.wrap (2 * n) = N)) (F5 : (p == M) = false) (WP : Hid (IntKind.i64.wrap (M + 1) = p)) (F6 : (p == p) = true) (F7 : (N == N) = true) (F9 : decide (m < n) = false) (F0 : (p == N) = true) : Calls Tryd.prog 27 #[.agg #[.int .i64 m, .int .i64 n], .agg #[.int .i64 p, .int .i64 N]] w fun e w' => e = .returned (.bool true) ∧ Below w.heap.size w w' := by
  obtain ⟨W, hW⟩ : ∃ W, W = (w.alloc (.cells #[.int .i64 m, .int .i64 n] 55)).alloc (.cells #[.int .i64 p, .int .i64 N] 55) := ⟨_, rfl⟩
  have hb : Below w.heap.size w W := by rw [hW]; exact (belB w (.cells #[.int .i64 m, .int .i64 n] 55)).alloc (by simp) (.cells #[.int .i64 p, .int .i64 N] 55)
  have r0 : RowV W w.heap.size 55 [.int .i64 m, .int .i64 n] := by rw [hW]; exact (RowV.of_alloc w 55 [.int .i64 m, .int .i64 n]).alloc _
  have r1 : RowV W (w.heap.size + 1) 55 [.int .i64 p, .int .i64 N] := by
    have h := RowV.of_alloc (w.alloc (.cells #[.int .i64 m, .int .i64 n] 55)) 55 [.int .i64 p, .int .i64 N]
    rw [World.size_alloc] at h
    rw [hW]; exact h
  have c0 := RowV.c0 r0
  have c1 := RowV.c1 r0
  have d0 := RowV.c0 r1
  have d1 := RowV.c1 r1
  have HB := Lib.hid hb
  have HW := Lib.hid hW
  clear hb hW r0 r1
  go_enter Tryd.func27, Tryd.ntmps27
  go_upto_region 1 with fail
  rw [← HW.out]
  clear HW
  refine st_in ?_
  refine st_run (v := .pointer (some ⟨w.heap.size, 0, none⟩)) (.pointer (some ⟨w.heap.size, 0, none⟩)) (by kernel_rfl) (by kernel_rfl) rfl ?_
  simp only [Act.put, List.setIfInBounds_toArray, List.set_cons_zero, List.set_cons_succ]
  refine st_load m (.tmp 5) ⟨w.heap.size, 0, none⟩ (by kernel_rfl) rfl (by kernel_rfl) c0 ?_
  simp only [Act.put, List.setIfInBounds_toArray, List.set_cons_zero, List.set_cons_succ]
  refine st_run (v := .pointer (some ⟨w.heap.size, 1, none⟩)) (.pointer (some ⟨w.heap.size, 1, none⟩)) (by kernel_rfl) (by kernel_rfl) rfl ?_
  simp only [Act.put, List.setIfInBounds_toArray, List.set_cons_zero, List.set_cons_succ]
  refine st_load n (.tmp 7) ⟨w.heap.size, 1, none⟩ (by kernel_rfl) rfl (by kernel_rfl) c1 ?_
  simp only [Act.put, List.setIfInBounds_toArray, List.set_cons_zero, List.set_cons_succ]
  refine st_run (v := .bool (decide (m ≤ n))) (.bool true) (by kernel_rfl) (by kernel_rfl) (congrArg Value.bool F1) ?_
  simp only [Act.put, List.setIfInBounds_toArray, List.set_cons_zero, List.set_cons_succ]
  refine st_run (v := .bool true) (.bool true) (by kernel_rfl) (by kernel_rfl) rfl ?_
  simp only [Act.put, List.setIfInBounds_toArray, List.set_cons_zero, List.set_cons_succ]
  refine st_run (v := .pointer (some ⟨w.heap.size + 1, 0, none⟩)) (.pointer (some ⟨w.heap.size + 1, 0, none⟩)) (by kernel_rfl) (by kernel_rfl) rfl ?_
  simp only [Act.put, List.setIfInBounds_toArray, List.set_cons_zero, List.set_cons_succ]
  refine st_load p (.tmp 11) ⟨w.heap.size + 1, 0, none⟩ (by kernel_rfl) rfl (by kernel_rfl) d0 ?_
  simp only [Act.put, List.setIfInBounds_toArray, List.set_cons_zero, List.set_cons_succ]
  refine st_run (v := .pointer (some ⟨w.heap.size + 1, 1, none⟩)) (.pointer (some ⟨w.heap.size + 1, 1, none⟩)) (by kernel_rfl) (by kernel_rfl) rfl ?_
  simp only [Act.put, List.setIfInBounds_toArray, List.set_cons_zero, List.set_cons_succ]
  refine st_load N (.tmp 13) ⟨w.heap.size + 1, 1, none⟩ (by kernel_rfl) rfl (by kernel_rfl) d1 ?_
  simp only [Act.put, List.setIfInBounds_toArray, List.set_cons_zero, List.set_cons_succ]
  refine st_run (v := .bool (decide (p ≤ N))) (.bool true) (by kernel_rfl) (by kernel_rfl) (congrArg Value.bool F2) ?_
  simp only [Act.put, List.setIfInBounds_toArray, List.set_cons_zero, List.set_cons_succ]
  refine st_run (v := .bool true) (.bool true) (by kernel_rfl) (by kernel_rfl) rfl ?_
  simp only [Act.put, List.setIfInBounds_toArray, List.set_cons_zero, List.set_cons_succ]
  refine st_run (v := .bool true) (.bool true) (by kernel_rfl) (by kernel_rfl) rfl ?_
  simp only [Act.put, List.setIfInBounds_toArray, List.set_cons_zero, List.set_cons_succ]
  refine st_run (v := .pointer (some ⟨w.heap.size, 0, none⟩)) (.pointer (some ⟨w.heap.size, 0, none⟩)) (by kernel_rfl) (by kernel_rfl) rfl ?_
  simp only [Act.put, List.setIfInBounds_toArray, List.set_cons_zero, List.set_cons_succ]
  refine st_load m (.tmp 18) ⟨w.heap.size, 0, none⟩ (by kernel_rfl) rfl (by kernel_rfl) c0 ?_
  simp only [Act.put, List.setIfInBounds_toArray, List.set_cons_zero, List.set_cons_succ]
  refine st_run (v := .bool (decide (0 ≤ m))) (.bool true) (by kernel_rfl) (by kernel_rfl) (congrArg Value.bool F3) ?_
  simp only [Act.put, List.setIfInBounds_toArray, List.set_cons_zero, List.set_cons_succ]
  refine st_run (v := .bool true) (.bool true) (by kernel_rfl) (by kernel_rfl) rfl ?_
  simp only [Act.put, List.setIfInBounds_toArray, List.set_cons_zero, List.set_cons_succ]
  refine st_run (v := .bool true) (.bool true) (by kernel_rfl) (by kernel_rfl) rfl ?_
  simp only [Act.put, List.setIfInBounds_toArray, List.set_cons_zero, List.set_cons_succ]
  refine st_run (v := .pointer (some ⟨w.heap.size, 1, none⟩)) (.pointer (some ⟨w.heap.size, 1, none⟩)) (by kernel_rfl) (by kernel_rfl) rfl ?_
  simp only [Act.put, List.setIfInBounds_toArray, List.set_cons_zero, List.set_cons_succ]
  refine st_load n (.tmp 23) ⟨w.heap.size, 1, none⟩ (by kernel_rfl) rfl (by kernel_rfl) c1 ?_
  simp only [Act.put, List.setIfInBounds_toArray, List.set_cons_zero, List.set_cons_succ]
  refine st_run (v := .bool (decide (n < 1099511627776))) (.bool true) (by kernel_rfl) (by kernel_rfl) (congrArg Value.bool F4) ?_
  simp only [Act.put, List.setIfInBounds_toArray, List.set_cons_zero, List.set_cons_succ]
  refine st_run (v := .bool true) (.bool true) (by kernel_rfl) (by kernel_rfl) rfl ?_
  simp only [Act.put, List.setIfInBounds_toArray, List.set_cons_zero, List.set_cons_succ]
  refine st_run (v := .bool true) (.bool true) (by kernel_rfl) (by kernel_rfl) rfl ?_
  simp only [Act.put, List.setIfInBounds_toArray, List.set_cons_zero, List.set_cons_succ]
  refine st_run (v := .pointer (some ⟨w.heap.size + 1, 0, none⟩)) (.pointer (some ⟨w.heap.size + 1, 0, none⟩)) (by kernel_rfl) (by kernel_rfl) rfl ?_
  simp only [Act.put, List.setIfInBounds_toArray, List.set_cons_zero, List.set_cons_succ]
  refine st_load p (.tmp 28) ⟨w.heap.size + 1, 0, none⟩ (by kernel_rfl) rfl (by kernel_rfl) d0 ?_
  simp only [Act.put, List.setIfInBounds_toArray, List.set_cons_zero, List.set_cons_succ]
  refine st_run (v := .pointer (some ⟨w.heap.size, 0, none⟩)) (.pointer (some ⟨w.heap.size, 0, none⟩)) (by kernel_rfl) (by kernel_rfl) rfl ?_
  simp only [Act.put, List.setIfInBounds_toArray, List.set_cons_zero, List.set_cons_succ]
  refine st_load m (.tmp 30) ⟨w.heap.size, 0, none⟩ (by kernel_rfl) rfl (by kernel_rfl) c0 ?_
  simp only [Act.put, List.setIfInBounds_toArray, List.set_cons_zero, List.set_cons_succ]
  refine st_run (v := .int .i64 (IntKind.i64.wrap (2 * m))) (.int .i64 M) (by kernel_rfl) (by kernel_rfl) (congrArg (Value.int .i64) WM.out) ?_
  simp only [Act.put, List.setIfInBounds_toArray, List.set_cons_zero, List.set_cons_succ]
  refine st_run (v := .bool (p == M)) (.bool false) (by kernel_rfl) (by kernel_rfl) (congrArg Value.bool F5) ?_
  simp only [Act.put, List.setIfInBounds_toArray, List.set_cons_zero, List.set_cons_succ]
  refine st_run (v := .bool false) (.bool false) (by kernel_rfl) (by kernel_rfl) rfl ?_
  simp only [Act.put, List.setIfInBounds_toArray, List.set_cons_zero, List.set_cons_succ]
  refine st_run (v := .pointer (some ⟨w.heap.size + 1, 0, none⟩)) (.pointer (some ⟨w.heap.size + 1, 0, none⟩)) (by kernel_rfl) (by kernel_rfl) rfl ?_
  simp only [Act.put, List.setIfInBounds_toArray, List.set_cons_zero, List.set_cons_succ]
  refine st_load p (.tmp 35) ⟨w.heap.size + 1, 0, none⟩ (by kernel_rfl) rfl (by kernel_rfl) d0 ?_
  simp only [Act.put, List.setIfInBounds_toArray, List.set_cons_zero, List.set_cons_succ]
  refine st_run (v := .pointer (some ⟨w.heap.size, 0, none⟩)) (.pointer (some ⟨w.heap.size, 0, none⟩)) (by kernel_rfl) (by kernel_rfl) rfl ?_
  simp only [Act.put, List.setIfInBounds_toArray, List.set_cons_zero, List.set_cons_succ]
  refine st_load m (.tmp 37) ⟨w.heap.size, 0, none⟩ (by kernel_rfl) rfl (by kernel_rfl) c0 ?_
  simp only [Act.put, List.setIfInBounds_toArray, List.set_cons_zero, List.set_cons_succ]
  refine st_run (v := .int .i64 (IntKind.i64.wrap (2 * m))) (.int .i64 M) (by kernel_rfl) (by kernel_rfl) (congrArg (Value.int .i64) WM.out) ?_
  simp only [Act.put, List.setIfInBounds_toArray, List.set_cons_zero, List.set_cons_succ]
  refine st_run (v := .int .i64 (IntKind.i64.wrap (M + 1))) (.int .i64 p) (by kernel_rfl) (by kernel_rfl) (congrArg (Value.int .i64) WP.out) ?_
  simp only [Act.put, List.setIfInBounds_toArray, List.set_cons_zero, List.set_cons_succ]
  refine st_run (v := .bool (p == p)) (.bool true) (by kernel_rfl) (by kernel_rfl) (congrArg Value.bool F6) ?_
  simp only [Act.put, List.setIfInBounds_toArray, List.set_cons_zero, List.set_cons_succ]
  refine st_run (v := .bool true) (.bool true) (by kernel_rfl) (by kernel_rfl) rfl ?_
  simp only [Act.put, List.setIfInBounds_toArray, List.set_cons_zero, List.set_cons_succ]
  refine st_run (v := .bool true) (.bool true) (by kernel_rfl) (by kernel_rfl) rfl ?_
  simp only [Act.put, List.setIfInBounds_toArray, List.set_cons_zero, List.set_cons_succ]
  refine st_run (v := .bool true) (.bool true) (by kernel_rfl) (by kernel_rfl) rfl ?_
  simp only [Act.put, List.setIfInBounds_toArray, List.set_cons_zero, List.set_cons_succ]
  refine st_run (v := .pointer (some ⟨w.heap.size + 1, 1, none⟩)) (.pointer (some ⟨w.heap.size + 1, 1, none⟩)) (by kernel_rfl) (by kernel_rfl) rfl ?_
  simp only [Act.put, List.setIfInBounds_toArray, List.set_cons_zero, List.set_cons_succ]
  refine st_load N (.tmp 45) ⟨w.heap.size + 1, 1, none⟩ (by kernel_rfl) rfl (by kernel_rfl) d1 ?_
  simp only [Act.put, List.setIfInBounds_toArray, List.set_cons_zero, List.set_cons_succ]
  refine st_run (v := .pointer (some ⟨w.heap.size, 1, none⟩)) (.pointer (some ⟨w.heap.size, 1, none⟩)) (by kernel_rfl) (by kernel_rfl) rfl ?_
  simp only [Act.put, List.setIfInBounds_toArray, List.set_cons_zero, List.set_cons_succ]
  refine st_load n (.tmp 47) ⟨w.heap.size, 1, none⟩ (by kernel_rfl) rfl (by kernel_rfl) c1 ?_
  simp only [Act.put, List.setIfInBounds_toArray, List.set_cons_zero, List.set_cons_succ]
  refine st_run (v := .int .i64 (IntKind.i64.wrap (2 * n))) (.int .i64 N) (by kernel_rfl) (by kernel_rfl) (congrArg (Value.int .i64) WN.out) ?_
  simp only [Act.put, List.setIfInBounds_toArray, List.set_cons_zero, List.set_cons_succ]
  refine st_run (v := .bool (N == N)) (.bool true) (by kernel_rfl) (by kernel_rfl) (congrArg Value.bool F7) ?_
  simp only [Act.put, List.setIfInBounds_toArray, List.set_cons_zero, List.set_cons_succ]
  refine st_run (v := .bool true) (.bool true) (by kernel_rfl) (by kernel_rfl) rfl ?_
  simp only [Act.put, List.setIfInBounds_toArray, List.set_cons_zero, List.set_cons_succ]
  refine st_skip (by kernel_rfl) ?_
  simp only [Act.put, List.setIfInBounds_toArray, List.set_cons_zero, List.set_cons_succ]
  refine st_skip (by kernel_rfl) ?_
  simp only [Act.put, List.setIfInBounds_toArray, List.set_cons_zero, List.set_cons_succ]
  refine st_skip (by kernel_rfl) ?_
  simp only [Act.put, List.setIfInBounds_toArray, List.set_cons_zero, List.set_cons_succ]
  refine st_skip (by kernel_rfl) ?_
  simp only [Act.put, List.setIfInBounds_toArray, List.set_cons_zero, List.set_cons_succ]
  refine st_skip (by kernel_rfl) ?_
  simp only [Act.put, List.setIfInBounds_toArray, List.set_cons_zero, List.set_cons_succ]
  refine st_skip (by kernel_rfl) ?_
  simp only [Act.put, List.setIfInBounds_toArray, List.set_cons_zero, List.set_cons_succ]
  refine st_skip (by kernel_rfl) ?_
  simp only [Act.put, List.setIfInBounds_toArray, List.set_cons_zero, List.set_cons_succ]
  refine st_run (v := .bool true) (.bool true) (by kernel_rfl) (by kernel_rfl) rfl ?_
  simp only [Act.put, List.setIfInBounds_toArray, List.set_cons_zero, List.set_cons_succ]
  refine st_run (v := .bool true) (.bool true) (by kernel_rfl) (by kernel_rfl) rfl ?_
  simp only [Act.put, List.setIfInBounds_toArray, List.set_cons_zero, List.set_cons_succ]
  refine st_run (v := .bool true) (.bool true) (by kernel_rfl) (by kernel_rfl) rfl ?_
  simp only [Act.put, List.setIfInBounds_toArray, List.set_cons_zero, List.set_cons_succ]
  refine st_run (v := .pointer (some ⟨w.heap.size, 0, none⟩)) (.pointer (some ⟨w.heap.size, 0, none⟩)) (by kernel_rfl) (by kernel_rfl) rfl ?_
  simp only [Act.put, List.setIfInBounds_toArray, List.set_cons_zero, List.set_cons_succ]
  refine st_load m (.tmp 62) ⟨w.heap.size, 0, none⟩ (by kernel_rfl) rfl (by kernel_rfl) c0 ?_
  simp only [Act.put, List.setIfInBounds_toArray, List.set_cons_zero, List.set_cons_succ]
  refine st_run (v := .pointer (some ⟨w.heap.size, 1, none⟩)) (.pointer (some ⟨w.heap.size, 1, none⟩)) (by kernel_rfl) (by kernel_rfl) rfl ?_
  simp only [Act.put, List.setIfInBounds_toArray, List.set_cons_zero, List.set_cons_succ]
  refine st_load n (.tmp 64) ⟨w.heap.size, 1, none⟩ (by kernel_rfl) rfl (by kernel_rfl) c1 ?_
  simp only [Act.put, List.setIfInBounds_toArray, List.set_cons_zero, List.set_cons_succ]
  refine st_run (v := .bool (decide (m < n))) (.bool false) (by kernel_rfl) (by kernel_rfl) (congrArg Value.bool F9) ?_
  simp only [Act.put, List.setIfInBounds_toArray, List.set_cons_zero, List.set_cons_succ]
  refine st_run (v := .bool false) (.bool false) (by kernel_rfl) (by kernel_rfl) rfl ?_
  simp only [Act.put, List.setIfInBounds_toArray, List.set_cons_zero, List.set_cons_succ]
  refine st_run (v := .pointer (some ⟨w.heap.size + 1, 0, none⟩)) (.pointer (some ⟨w.heap.size + 1, 0, none⟩)) (by kernel_rfl) (by kernel_rfl) rfl ?_
  simp only [Act.put, List.setIfInBounds_toArray, List.set_cons_zero, List.set_cons_succ]
  refine st_load p (.tmp 68) ⟨w.heap.size + 1, 0, none⟩ (by kernel_rfl) rfl (by kernel_rfl) d0 ?_
  simp only [Act.put, List.setIfInBounds_toArray, List.set_cons_zero, List.set_cons_succ]
  refine st_run (v := .pointer (some ⟨w.heap.size + 1, 1, none⟩)) (.pointer (some ⟨w.heap.size + 1, 1, none⟩)) (by kernel_rfl) (by kernel_rfl) rfl ?_
  simp only [Act.put, List.setIfInBounds_toArray, List.set_cons_zero, List.set_cons_succ]
  refine st_load N (.tmp 70) ⟨w.heap.size + 1, 1, none⟩ (by kernel_rfl) rfl (by kernel_rfl) d1 ?_
  simp only [Act.put, List.setIfInBounds_toArray, List.set_cons_zero, List.set_cons_succ]
  refine st_run (v := .bool (p == N)) (.bool true) (by kernel_rfl) (by kernel_rfl) (congrArg Value.bool F0) ?_
  simp only [Act.put, List.setIfInBounds_toArray, List.set_cons_zero, List.set_cons_succ]
  refine st_run (v := .bool true) (.bool true) (by kernel_rfl) (by kernel_rfl) rfl ?_
  simp only [Act.put, List.setIfInBounds_toArray, List.set_cons_zero, List.set_cons_succ]
  refine st_run (v := .bool true) (.bool true) (by kernel_rfl) (by kernel_rfl) rfl ?_
  simp only [Act.put, List.setIfInBounds_toArray, List.set_cons_zero, List.set_cons_succ]
  refine st_run (v := .bool true) (.bool true) (by kernel_rfl) (by kernel_rfl) rfl ?_
  simp only [Act.put, List.setIfInBounds_toArray, List.set_cons_zero, List.set_cons_succ]
  refine st_nil ?_
  go_wp2
  go_ret
  exact ⟨rfl, HB.out⟩
set_option maxRecDepth 100000 in
set_option maxHeartbeats 1000000 in
theorem dbl110 (m n p q M N : Int) (w : World) (F1 : decide (m ≤ n) = true) (F2 : decide (p ≤ q) = true) (F3 : decide (0 ≤ m) = true) (F4 : decide (n < 1099511627776) = true) (WM : Hid (IntKind.i64.wrap (2 * m) = M)) (WN : Hid (IntKind.i64.wrap (2 * n) = N)) (F5 : (p == M) = false) (WP : Hid (IntKind.i64.wrap (M + 1) = p)) (F6 : (p == p) = true) (F7 : (q == N) = false) (WQ : Hid (IntKind.i64.wrap (N - 1) = q)) (F8 : (q == q) = true) (F9 : decide (m < n) = true) : Calls Tryd.prog 27 #[.agg #[.int .i64 m, .int .i64 n], .agg #[.int .i64 p, .int .i64 q]] w fun e w' => e = .returned (.bool true) ∧ Below w.heap.size w w' := by
  obtain ⟨W, hW⟩ : ∃ W, W = (w.alloc (.cells #[.int .i64 m, .int .i64 n] 55)).alloc (.cells #[.int .i64 p, .int .i64 q] 55) := ⟨_, rfl⟩
  have hb : Below w.heap.size w W := by rw [hW]; exact (belB w (.cells #[.int .i64 m, .int .i64 n] 55)).alloc (by simp) (.cells #[.int .i64 p, .int .i64 q] 55)
  have r0 : RowV W w.heap.size 55 [.int .i64 m, .int .i64 n] := by rw [hW]; exact (RowV.of_alloc w 55 [.int .i64 m, .int .i64 n]).alloc _
  have r1 : RowV W (w.heap.size + 1) 55 [.int .i64 p, .int .i64 q] := by
    have h := RowV.of_alloc (w.alloc (.cells #[.int .i64 m, .int .i64 n] 55)) 55 [.int .i64 p, .int .i64 q]
    rw [World.size_alloc] at h
    rw [hW]; exact h
  have c0 := RowV.c0 r0
  have c1 := RowV.c1 r0
  have d0 := RowV.c0 r1
  have d1 := RowV.c1 r1
  have HB := Lib.hid hb
  have HW := Lib.hid hW
  clear hb hW r0 r1
  go_enter Tryd.func27, Tryd.ntmps27
  go_upto_region 1 with fail
  rw [← HW.out]
  clear HW
  refine st_in ?_
  refine st_run (v := .pointer (some ⟨w.heap.size, 0, none⟩)) (.pointer (some ⟨w.heap.size, 0, none⟩)) (by kernel_rfl) (by kernel_rfl) rfl ?_
  simp only [Act.put, List.setIfInBounds_toArray, List.set_cons_zero, List.set_cons_succ]
  refine st_load m (.tmp 5) ⟨w.heap.size, 0, none⟩ (by kernel_rfl) rfl (by kernel_rfl) c0 ?_
  simp only [Act.put, List.setIfInBounds_toArray, List.set_cons_zero, List.set_cons_succ]
  refine st_run (v := .pointer (some ⟨w.heap.size, 1, none⟩)) (.pointer (some ⟨w.heap.size, 1, none⟩)) (by kernel_rfl) (by kernel_rfl) rfl ?_
  simp only [Act.put, List.setIfInBounds_toArray, List.set_cons_zero, List.set_cons_succ]
  refine st_load n (.tmp 7) ⟨w.heap.size, 1, none⟩ (by kernel_rfl) rfl (by kernel_rfl) c1 ?_
  simp only [Act.put, List.setIfInBounds_toArray, List.set_cons_zero, List.set_cons_succ]
  refine st_run (v := .bool (decide (m ≤ n))) (.bool true) (by kernel_rfl) (by kernel_rfl) (congrArg Value.bool F1) ?_
  simp only [Act.put, List.setIfInBounds_toArray, List.set_cons_zero, List.set_cons_succ]
  refine st_run (v := .bool true) (.bool true) (by kernel_rfl) (by kernel_rfl) rfl ?_
  simp only [Act.put, List.setIfInBounds_toArray, List.set_cons_zero, List.set_cons_succ]
  refine st_run (v := .pointer (some ⟨w.heap.size + 1, 0, none⟩)) (.pointer (some ⟨w.heap.size + 1, 0, none⟩)) (by kernel_rfl) (by kernel_rfl) rfl ?_
  simp only [Act.put, List.setIfInBounds_toArray, List.set_cons_zero, List.set_cons_succ]
  refine st_load p (.tmp 11) ⟨w.heap.size + 1, 0, none⟩ (by kernel_rfl) rfl (by kernel_rfl) d0 ?_
  simp only [Act.put, List.setIfInBounds_toArray, List.set_cons_zero, List.set_cons_succ]
  refine st_run (v := .pointer (some ⟨w.heap.size + 1, 1, none⟩)) (.pointer (some ⟨w.heap.size + 1, 1, none⟩)) (by kernel_rfl) (by kernel_rfl) rfl ?_
  simp only [Act.put, List.setIfInBounds_toArray, List.set_cons_zero, List.set_cons_succ]
  refine st_load q (.tmp 13) ⟨w.heap.size + 1, 1, none⟩ (by kernel_rfl) rfl (by kernel_rfl) d1 ?_
  simp only [Act.put, List.setIfInBounds_toArray, List.set_cons_zero, List.set_cons_succ]
  refine st_run (v := .bool (decide (p ≤ q))) (.bool true) (by kernel_rfl) (by kernel_rfl) (congrArg Value.bool F2) ?_
  simp only [Act.put, List.setIfInBounds_toArray, List.set_cons_zero, List.set_cons_succ]
  refine st_run (v := .bool true) (.bool true) (by kernel_rfl) (by kernel_rfl) rfl ?_
  simp only [Act.put, List.setIfInBounds_toArray, List.set_cons_zero, List.set_cons_succ]
  refine st_run (v := .bool true) (.bool true) (by kernel_rfl) (by kernel_rfl) rfl ?_
  simp only [Act.put, List.setIfInBounds_toArray, List.set_cons_zero, List.set_cons_succ]
  refine st_run (v := .pointer (some ⟨w.heap.size, 0, none⟩)) (.pointer (some ⟨w.heap.size, 0, none⟩)) (by kernel_rfl) (by kernel_rfl) rfl ?_
  simp only [Act.put, List.setIfInBounds_toArray, List.set_cons_zero, List.set_cons_succ]
  refine st_load m (.tmp 18) ⟨w.heap.size, 0, none⟩ (by kernel_rfl) rfl (by kernel_rfl) c0 ?_
  simp only [Act.put, List.setIfInBounds_toArray, List.set_cons_zero, List.set_cons_succ]
  refine st_run (v := .bool (decide (0 ≤ m))) (.bool true) (by kernel_rfl) (by kernel_rfl) (congrArg Value.bool F3) ?_
  simp only [Act.put, List.setIfInBounds_toArray, List.set_cons_zero, List.set_cons_succ]
  refine st_run (v := .bool true) (.bool true) (by kernel_rfl) (by kernel_rfl) rfl ?_
  simp only [Act.put, List.setIfInBounds_toArray, List.set_cons_zero, List.set_cons_succ]
  refine st_run (v := .bool true) (.bool true) (by kernel_rfl) (by kernel_rfl) rfl ?_
  simp only [Act.put, List.setIfInBounds_toArray, List.set_cons_zero, List.set_cons_succ]
  refine st_run (v := .pointer (some ⟨w.heap.size, 1, none⟩)) (.pointer (some ⟨w.heap.size, 1, none⟩)) (by kernel_rfl) (by kernel_rfl) rfl ?_
  simp only [Act.put, List.setIfInBounds_toArray, List.set_cons_zero, List.set_cons_succ]
  refine st_load n (.tmp 23) ⟨w.heap.size, 1, none⟩ (by kernel_rfl) rfl (by kernel_rfl) c1 ?_
  simp only [Act.put, List.setIfInBounds_toArray, List.set_cons_zero, List.set_cons_succ]
  refine st_run (v := .bool (decide (n < 1099511627776))) (.bool true) (by kernel_rfl) (by kernel_rfl) (congrArg Value.bool F4) ?_
  simp only [Act.put, List.setIfInBounds_toArray, List.set_cons_zero, List.set_cons_succ]
  refine st_run (v := .bool true) (.bool true) (by kernel_rfl) (by kernel_rfl) rfl ?_
  simp only [Act.put, List.setIfInBounds_toArray, List.set_cons_zero, List.set_cons_succ]
  refine st_run (v := .bool true) (.bool true) (by kernel_rfl) (by kernel_rfl) rfl ?_
  simp only [Act.put, List.setIfInBounds_toArray, List.set_cons_zero, List.set_cons_succ]
  refine st_run (v := .pointer (some ⟨w.heap.size + 1, 0, none⟩)) (.pointer (some ⟨w.heap.size + 1, 0, none⟩)) (by kernel_rfl) (by kernel_rfl) rfl ?_
  simp only [Act.put, List.setIfInBounds_toArray, List.set_cons_zero, List.set_cons_succ]
  refine st_load p (.tmp 28) ⟨w.heap.size + 1, 0, none⟩ (by kernel_rfl) rfl (by kernel_rfl) d0 ?_
  simp only [Act.put, List.setIfInBounds_toArray, List.set_cons_zero, List.set_cons_succ]
  refine st_run (v := .pointer (some ⟨w.heap.size, 0, none⟩)) (.pointer (some ⟨w.heap.size, 0, none⟩)) (by kernel_rfl) (by kernel_rfl) rfl ?_
  simp only [Act.put, List.setIfInBounds_toArray, List.set_cons_zero, List.set_cons_succ]
  refine st_load m (.tmp 30) ⟨w.heap.size, 0, none⟩ (by kernel_rfl) rfl (by kernel_rfl) c0 ?_
  simp only [Act.put, List.setIfInBounds_toArray, List.set_cons_zero, List.set_cons_succ]
  refine st_run (v := .int .i64 (IntKind.i64.wrap (2 * m))) (.int .i64 M) (by kernel_rfl) (by kernel_rfl) (congrArg (Value.int .i64) WM.out) ?_
  simp only [Act.put, List.setIfInBounds_toArray, List.set_cons_zero, List.set_cons_succ]
  refine st_run (v := .bool (p == M)) (.bool false) (by kernel_rfl) (by kernel_rfl) (congrArg Value.bool F5) ?_
  simp only [Act.put, List.setIfInBounds_toArray, List.set_cons_zero, List.set_cons_succ]
  refine st_run (v := .bool false) (.bool false) (by kernel_rfl) (by kernel_rfl) rfl ?_
  simp only [Act.put, List.setIfInBounds_toArray, List.set_cons_zero, List.set_cons_succ]
  refine st_run (v := .pointer (some ⟨w.heap.size + 1, 0, none⟩)) (.pointer (some ⟨w.heap.size + 1, 0, none⟩)) (by kernel_rfl) (by kernel_rfl) rfl ?_
  simp only [Act.put, List.setIfInBounds_toArray, List.set_cons_zero, List.set_cons_succ]
  refine st_load p (.tmp 35) ⟨w.heap.size + 1, 0, none⟩ (by kernel_rfl) rfl (by kernel_rfl) d0 ?_
  simp only [Act.put, List.setIfInBounds_toArray, List.set_cons_zero, List.set_cons_succ]
  refine st_run (v := .pointer (some ⟨w.heap.size, 0, none⟩)) (.pointer (some ⟨w.heap.size, 0, none⟩)) (by kernel_rfl) (by kernel_rfl) rfl ?_
  simp only [Act.put, List.setIfInBounds_toArray, List.set_cons_zero, List.set_cons_succ]
  refine st_load m (.tmp 37) ⟨w.heap.size, 0, none⟩ (by kernel_rfl) rfl (by kernel_rfl) c0 ?_
  simp only [Act.put, List.setIfInBounds_toArray, List.set_cons_zero, List.set_cons_succ]
  refine st_run (v := .int .i64 (IntKind.i64.wrap (2 * m))) (.int .i64 M) (by kernel_rfl) (by kernel_rfl) (congrArg (Value.int .i64) WM.out) ?_
  simp only [Act.put, List.setIfInBounds_toArray, List.set_cons_zero, List.set_cons_succ]
  refine st_run (v := .int .i64 (IntKind.i64.wrap (M + 1))) (.int .i64 p) (by kernel_rfl) (by kernel_rfl) (congrArg (Value.int .i64) WP.out) ?_
  simp only [Act.put, List.setIfInBounds_toArray, List.set_cons_zero, List.set_cons_succ]
  refine st_run (v := .bool (p == p)) (.bool true) (by kernel_rfl) (by kernel_rfl) (congrArg Value.bool F6) ?_
  simp only [Act.put, List.setIfInBounds_toArray, List.set_cons_zero, List.set_cons_succ]
  refine st_run (v := .bool true) (.bool true) (by kernel_rfl) (by kernel_rfl) rfl ?_
  simp only [Act.put, List.setIfInBounds_toArray, List.set_cons_zero, List.set_cons_succ]
  refine st_run (v := .bool true) (.bool true) (by kernel_rfl) (by kernel_rfl) rfl ?_
  simp only [Act.put, List.setIfInBounds_toArray, List.set_cons_zero, List.set_cons_succ]
  refine st_run (v := .bool true) (.bool true) (by kernel_rfl) (by kernel_rfl) rfl ?_
  simp only [Act.put, List.setIfInBounds_toArray, List.set_cons_zero, List.set_cons_succ]
  refine st_run (v := .pointer (some ⟨w.heap.size + 1, 1, none⟩)) (.pointer (some ⟨w.heap.size + 1, 1, none⟩)) (by kernel_rfl) (by kernel_rfl) rfl ?_
  simp only [Act.put, List.setIfInBounds_toArray, List.set_cons_zero, List.set_cons_succ]
  refine st_load q (.tmp 45) ⟨w.heap.size + 1, 1, none⟩ (by kernel_rfl) rfl (by kernel_rfl) d1 ?_
  simp only [Act.put, List.setIfInBounds_toArray, List.set_cons_zero, List.set_cons_succ]
  refine st_run (v := .pointer (some ⟨w.heap.size, 1, none⟩)) (.pointer (some ⟨w.heap.size, 1, none⟩)) (by kernel_rfl) (by kernel_rfl) rfl ?_
  simp only [Act.put, List.setIfInBounds_toArray, List.set_cons_zero, List.set_cons_succ]
  refine st_load n (.tmp 47) ⟨w.heap.size, 1, none⟩ (by kernel_rfl) rfl (by kernel_rfl) c1 ?_
  simp only [Act.put, List.setIfInBounds_toArray, List.set_cons_zero, List.set_cons_succ]
  refine st_run (v := .int .i64 (IntKind.i64.wrap (2 * n))) (.int .i64 N) (by kernel_rfl) (by kernel_rfl) (congrArg (Value.int .i64) WN.out) ?_
  simp only [Act.put, List.setIfInBounds_toArray, List.set_cons_zero, List.set_cons_succ]
  refine st_run (v := .bool (q == N)) (.bool false) (by kernel_rfl) (by kernel_rfl) (congrArg Value.bool F7) ?_
  simp only [Act.put, List.setIfInBounds_toArray, List.set_cons_zero, List.set_cons_succ]
  refine st_run (v := .bool false) (.bool false) (by kernel_rfl) (by kernel_rfl) rfl ?_
  simp only [Act.put, List.setIfInBounds_toArray, List.set_cons_zero, List.set_cons_succ]
  refine st_run (v := .pointer (some ⟨w.heap.size + 1, 1, none⟩)) (.pointer (some ⟨w.heap.size + 1, 1, none⟩)) (by kernel_rfl) (by kernel_rfl) rfl ?_
  simp only [Act.put, List.setIfInBounds_toArray, List.set_cons_zero, List.set_cons_succ]
  refine st_load q (.tmp 52) ⟨w.heap.size + 1, 1, none⟩ (by kernel_rfl) rfl (by kernel_rfl) d1 ?_
  simp only [Act.put, List.setIfInBounds_toArray, List.set_cons_zero, List.set_cons_succ]
  refine st_run (v := .pointer (some ⟨w.heap.size, 1, none⟩)) (.pointer (some ⟨w.heap.size, 1, none⟩)) (by kernel_rfl) (by kernel_rfl) rfl ?_
  simp only [Act.put, List.setIfInBounds_toArray, List.set_cons_zero, List.set_cons_succ]
  refine st_load n (.tmp 54) ⟨w.heap.size, 1, none⟩ (by kernel_rfl) rfl (by kernel_rfl) c1 ?_
  simp only [Act.put, List.setIfInBounds_toArray, List.set_cons_zero, List.set_cons_succ]
  refine st_run (v := .int .i64 (IntKind.i64.wrap (2 * n))) (.int .i64 N) (by kernel_rfl) (by kernel_rfl) (congrArg (Value.int .i64) WN.out) ?_
  simp only [Act.put, List.setIfInBounds_toArray, List.set_cons_zero, List.set_cons_succ]
  refine st_run (v := .int .i64 (IntKind.i64.wrap (N - 1))) (.int .i64 q) (by kernel_rfl) (by kernel_rfl) (congrArg (Value.int .i64) WQ.out) ?_
  simp only [Act.put, List.setIfInBounds_toArray, List.set_cons_zero, List.set_cons_succ]
  refine st_run (v := .bool (q == q)) (.bool true) (by kernel_rfl) (by kernel_rfl) (congrArg Value.bool F8) ?_
  simp only [Act.put, List.setIfInBounds_toArray, List.set_cons_zero, List.set_cons_succ]
  refine st_run (v := .bool true) (.bool true) (by kernel_rfl) (by kernel_rfl) rfl ?_
  simp only [Act.put, List.setIfInBounds_toArray, List.set_cons_zero, List.set_cons_succ]
  refine st_run (v := .bool true) (.bool true) (by kernel_rfl) (by kernel_rfl) rfl ?_
  simp only [Act.put, List.setIfInBounds_toArray, List.set_cons_zero, List.set_cons_succ]
  refine st_run (v := .bool true) (.bool true) (by kernel_rfl) (by kernel_rfl) rfl ?_
  simp only [Act.put, List.setIfInBounds_toArray, List.set_cons_zero, List.set_cons_succ]
  refine st_run (v := .pointer (some ⟨w.heap.size, 0, none⟩)) (.pointer (some ⟨w.heap.size, 0, none⟩)) (by kernel_rfl) (by kernel_rfl) rfl ?_
  simp only [Act.put, List.setIfInBounds_toArray, List.set_cons_zero, List.set_cons_succ]
  refine st_load m (.tmp 62) ⟨w.heap.size, 0, none⟩ (by kernel_rfl) rfl (by kernel_rfl) c0 ?_
  simp only [Act.put, List.setIfInBounds_toArray, List.set_cons_zero, List.set_cons_succ]
  refine st_run (v := .pointer (some ⟨w.heap.size, 1, none⟩)) (.pointer (some ⟨w.heap.size, 1, none⟩)) (by kernel_rfl) (by kernel_rfl) rfl ?_
  simp only [Act.put, List.setIfInBounds_toArray, List.set_cons_zero, List.set_cons_succ]
  refine st_load n (.tmp 64) ⟨w.heap.size, 1, none⟩ (by kernel_rfl) rfl (by kernel_rfl) c1 ?_
  simp only [Act.put, List.setIfInBounds_toArray, List.set_cons_zero, List.set_cons_succ]
  refine st_run (v := .bool (decide (m < n))) (.bool true) (by kernel_rfl) (by kernel_rfl) (congrArg Value.bool F9) ?_
  simp only [Act.put, List.setIfInBounds_toArray, List.set_cons_zero, List.set_cons_succ]
  refine st_run (v := .bool true) (.bool true) (by kernel_rfl) (by kernel_rfl) rfl ?_
  simp only [Act.put, List.setIfInBounds_toArray, List.set_cons_zero, List.set_cons_succ]
  refine st_skip (by kernel_rfl) ?_
  simp only [Act.put, List.setIfInBounds_toArray, List.set_cons_zero, List.set_cons_succ]
  refine st_skip (by kernel_rfl) ?_
  simp only [Act.put, List.setIfInBounds_toArray, List.set_cons_zero, List.set_cons_succ]
  refine st_skip (by kernel_rfl) ?_
  simp only [Act.put, List.setIfInBounds_toArray, List.set_cons_zero, List.set_cons_succ]
  refine st_skip (by kernel_rfl) ?_
  simp only [Act.put, List.setIfInBounds_toArray, List.set_cons_zero, List.set_cons_succ]
  refine st_skip (by kernel_rfl) ?_
  simp only [Act.put, List.setIfInBounds_toArray, List.set_cons_zero, List.set_cons_succ]
  refine st_run (v := .bool true) (.bool true) (by kernel_rfl) (by kernel_rfl) rfl ?_
  simp only [Act.put, List.setIfInBounds_toArray, List.set_cons_zero, List.set_cons_succ]
  refine st_run (v := .bool true) (.bool true) (by kernel_rfl) (by kernel_rfl) rfl ?_
  simp only [Act.put, List.setIfInBounds_toArray, List.set_cons_zero, List.set_cons_succ]
  refine st_run (v := .bool true) (.bool true) (by kernel_rfl) (by kernel_rfl) rfl ?_
  simp only [Act.put, List.setIfInBounds_toArray, List.set_cons_zero, List.set_cons_succ]
  refine st_nil ?_
  go_wp2
  go_ret
  exact ⟨rfl, HB.out⟩
set_option maxRecDepth 100000 in
set_option maxHeartbeats 1000000 in
theorem dbl111 (m n p q M N : Int) (w : World) (F1 : decide (m ≤ n) = true) (F2 : decide (p ≤ q) = true) (F3 : decide (0 ≤ m) = true) (F4 : decide (n < 1099511627776) = true) (WM : Hid (IntKind.i64.wrap (2 * m) = M)) (WN : Hid (IntKind.i64.wrap (2 * n) = N)) (F5 : (p == M) = false) (WP : Hid (IntKind.i64.wrap (M + 1) = p)) (F6 : (p == p) = true) (F7 : (q == N) = false) (WQ : Hid (IntKind.i64.wrap (N - 1) = q)) (F8 : (q == q) = true) (F9 : decide (m < n) = false) (F0 : (p == q) = true) : Calls Tryd.prog 27 #[.agg #[.int .i64 m, .int .i64 n], .agg #[.int .i64 p, .int .i64 q]] w fun e w' => e = .returned (.bool true) ∧ Below w.heap.size w w' := by
  obtain ⟨W, hW⟩ : ∃ W, W = (w.alloc (.cells #[.int .i64 m, .int .i64 n] 55)).alloc (.cells #[.int .i64 p, .int .i64 q] 55) := ⟨_, rfl⟩
  have hb : Below w.heap.size w W := by rw [hW]; exact (belB w (.cells #[.int .i64 m, .int .i64 n] 55)).alloc (by simp) (.cells #[.int .i64 p, .int .i64 q] 55)
  have r0 : RowV W w.heap.size 55 [.int .i64 m, .int .i64 n] := by rw [hW]; exact (RowV.of_alloc w 55 [.int .i64 m, .int .i64 n]).alloc _
  have r1 : RowV W (w.heap.size + 1) 55 [.int .i64 p, .int .i64 q] := by
    have h := RowV.of_alloc (w.alloc (.cells #[.int .i64 m, .int .i64 n] 55)) 55 [.int .i64 p, .int .i64 q]
    rw [World.size_alloc] at h
    rw [hW]; exact h
  have c0 := RowV.c0 r0
  have c1 := RowV.c1 r0
  have d0 := RowV.c0 r1
  have d1 := RowV.c1 r1
  have HB := Lib.hid hb
  have HW := Lib.hid hW
  clear hb hW r0 r1
  go_enter Tryd.func27, Tryd.ntmps27
  go_upto_region 1 with fail
  rw [← HW.out]
  clear HW
  refine st_in ?_
  refine st_run (v := .pointer (some ⟨w.heap.size, 0, none⟩)) (.pointer (some ⟨w.heap.size, 0, none⟩)) (by kernel_rfl) (by kernel_rfl) rfl ?_
  simp only [Act.put, List.setIfInBounds_toArray, List.set_cons_zero, List.set_cons_succ]
  refine st_load m (.tmp 5) ⟨w.heap.size, 0, none⟩ (by kernel_rfl) rfl (by kernel_rfl) c0 ?_
  simp only [Act.put, List.setIfInBounds_toArray, List.set_cons_zero, List.set_cons_succ]
  refine st_run (v := .pointer (some ⟨w.heap.size, 1, none⟩)) (.pointer (some ⟨w.heap.size, 1, none⟩)) (by kernel_rfl) (by kernel_rfl) rfl ?_
  simp only [Act.put, List.setIfInBounds_toArray, List.set_cons_zero, List.set_cons_succ]
  refine st_load n (.tmp 7) ⟨w.heap.size, 1, none⟩ (by kernel_rfl) rfl (by kernel_rfl) c1 ?_
  simp only [Act.put, List.setIfInBounds_toArray, List.set_cons_zero, List.set_cons_succ]
  refine st_run (v := .bool (decide (m ≤ n))) (.bool true) (by kernel_rfl) (by kernel_rfl) (congrArg Value.bool F1) ?_
  simp only [Act.put, List.setIfInBounds_toArray, List.set_cons_zero, List.set_cons_succ]
  refine st_run (v := .bool true) (.bool true) (by kernel_rfl) (by kernel_rfl) rfl ?_
  simp only [Act.put, List.setIfInBounds_toArray, List.set_cons_zero, List.set_cons_succ]
  refine st_run (v := .pointer (some ⟨w.heap.size + 1, 0, none⟩)) (.pointer (some ⟨w.heap.size + 1, 0, none⟩)) (by kernel_rfl) (by kernel_rfl) rfl ?_
  simp only [Act.put, List.setIfInBounds_toArray, List.set_cons_zero, List.set_cons_succ]
  refine st_load p (.tmp 11) ⟨w.heap.size + 1, 0, none⟩ (by kernel_rfl) rfl (by kernel_rfl) d0 ?_
  simp only [Act.put, List.setIfInBounds_toArray, List.set_cons_zero, List.set_cons_succ]
  refine st_run (v := .pointer (some ⟨w.heap.size + 1, 1, none⟩)) (.pointer (some ⟨w.heap.size + 1, 1, none⟩)) (by kernel_rfl) (by kernel_rfl) rfl ?_
  simp only [Act.put, List.setIfInBounds_toArray, List.set_cons_zero, List.set_cons_succ]
  refine st_load q (.tmp 13) ⟨w.heap.size + 1, 1, none⟩ (by kernel_rfl) rfl (by kernel_rfl) d1 ?_
  simp only [Act.put, List.setIfInBounds_toArray, List.set_cons_zero, List.set_cons_succ]
  refine st_run (v := .bool (decide (p ≤ q))) (.bool true) (by kernel_rfl) (by kernel_rfl) (congrArg Value.bool F2) ?_
  simp only [Act.put, List.setIfInBounds_toArray, List.set_cons_zero, List.set_cons_succ]
  refine st_run (v := .bool true) (.bool true) (by kernel_rfl) (by kernel_rfl) rfl ?_
  simp only [Act.put, List.setIfInBounds_toArray, List.set_cons_zero, List.set_cons_succ]
  refine st_run (v := .bool true) (.bool true) (by kernel_rfl) (by kernel_rfl) rfl ?_
  simp only [Act.put, List.setIfInBounds_toArray, List.set_cons_zero, List.set_cons_succ]
  refine st_run (v := .pointer (some ⟨w.heap.size, 0, none⟩)) (.pointer (some ⟨w.heap.size, 0, none⟩)) (by kernel_rfl) (by kernel_rfl) rfl ?_
  simp only [Act.put, List.setIfInBounds_toArray, List.set_cons_zero, List.set_cons_succ]
  refine st_load m (.tmp 18) ⟨w.heap.size, 0, none⟩ (by kernel_rfl) rfl (by kernel_rfl) c0 ?_
  simp only [Act.put, List.setIfInBounds_toArray, List.set_cons_zero, List.set_cons_succ]
  refine st_run (v := .bool (decide (0 ≤ m))) (.bool true) (by kernel_rfl) (by kernel_rfl) (congrArg Value.bool F3) ?_
  simp only [Act.put, List.setIfInBounds_toArray, List.set_cons_zero, List.set_cons_succ]
  refine st_run (v := .bool true) (.bool true) (by kernel_rfl) (by kernel_rfl) rfl ?_
  simp only [Act.put, List.setIfInBounds_toArray, List.set_cons_zero, List.set_cons_succ]
  refine st_run (v := .bool true) (.bool true) (by kernel_rfl) (by kernel_rfl) rfl ?_
  simp only [Act.put, List.setIfInBounds_toArray, List.set_cons_zero, List.set_cons_succ]
  refine st_run (v := .pointer (some ⟨w.heap.size, 1, none⟩)) (.pointer (some ⟨w.heap.size, 1, none⟩)) (by kernel_rfl) (by kernel_rfl) rfl ?_
  simp only [Act.put, List.setIfInBounds_toArray, List.set_cons_zero, List.set_cons_succ]
  refine st_load n (.tmp 23) ⟨w.heap.size, 1, none⟩ (by kernel_rfl) rfl (by kernel_rfl) c1 ?_
  simp only [Act.put, List.setIfInBounds_toArray, List.set_cons_zero, List.set_cons_succ]
  refine st_run (v := .bool (decide (n < 1099511627776))) (.bool true) (by kernel_rfl) (by kernel_rfl) (congrArg Value.bool F4) ?_
  simp only [Act.put, List.setIfInBounds_toArray, List.set_cons_zero, List.set_cons_succ]
  refine st_run (v := .bool true) (.bool true) (by kernel_rfl) (by kernel_rfl) rfl ?_
  simp only [Act.put, List.setIfInBounds_toArray, List.set_cons_zero, List.set_cons_succ]
  refine st_run (v := .bool true) (.bool true) (by kernel_rfl) (by kernel_rfl) rfl ?_
  simp only [Act.put, List.setIfInBounds_toArray, List.set_cons_zero, List.set_cons_succ]
  refine st_run (v := .pointer (some ⟨w.heap.size + 1, 0, none⟩)) (.pointer (some ⟨w.heap.size + 1, 0, none⟩)) (by kernel_rfl) (by kernel_rfl) rfl ?_
  simp only [Act.put, List.setIfInBounds_toArray, List.set_cons_zero, List.set_cons_succ]
  refine st_load p (.tmp 28) ⟨w.heap.size + 1, 0, none⟩ (by kernel_rfl) rfl (by kernel_rfl) d0 ?_
  simp only [Act.put, List.setIfInBounds_toArray, List.set_cons_zero, List.set_cons_succ]
  refine st_run (v := .pointer (some ⟨w.heap.size, 0, none⟩)) (.pointer (some ⟨w.heap.size, 0, none⟩)) (by kernel_rfl) (by kernel_rfl) rfl ?_
  simp only [Act.put, List.setIfInBounds_toArray, List.set_cons_zero, List.set_cons_succ]
  refine st_load m (.tmp 30) ⟨w.heap.size, 0, none⟩ (by kernel_rfl) rfl (by kernel_rfl) c0 ?_
  simp only [Act.put, List.setIfInBounds_toArray, List.set_cons_zero, List.set_cons_succ]
  refine st_run (v := .int .i64 (IntKind.i64.wrap (2 * m))) (.int .i64 M) (by kernel_rfl) (by kernel_rfl) (congrArg (Value.int .i64) WM.out) ?_
  simp only [Act.put, List.setIfInBounds_toArray, List.set_cons_zero, List.set_cons_succ]
  refine st_run (v := .bool (p == M)) (.bool false) (by kernel_rfl) (by kernel_rfl) (congrArg Value.bool F5) ?_
  simp only [Act.put, List.setIfInBounds_toArray, List.set_cons_zero, List.set_cons_succ]
  refine st_run (v := .bool false) (.bool false) (by kernel_rfl) (by kernel_rfl) rfl ?_
  simp only [Act.put, List.setIfInBounds_toArray, List.set_cons_zero, List.set_cons_succ]
  refine st_run (v := .pointer (some ⟨w.heap.size + 1, 0, none⟩)) (.pointer (some ⟨w.heap.size + 1, 0, none⟩)) (by kernel_rfl) (by kernel_rfl) rfl ?_
  simp only [Act.put, List.setIfInBounds_toArray, List.set_cons_zero, List.set_cons_succ]
  refine st_load p (.tmp 35) ⟨w.heap.size + 1, 0, none⟩ (by kernel_rfl) rfl (by kernel_rfl) d0 ?_
  simp only [Act.put, List.setIfInBounds_toArray, List.set_cons_zero, List.set_cons_succ]
  refine st_run (v := .pointer (some ⟨w.heap.size, 0, none⟩)) (.pointer (some ⟨w.heap.size, 0, none⟩)) (by kernel_rfl) (by kernel_rfl) rfl ?_
  simp only [Act.put, List.setIfInBounds_toArray, List.set_cons_zero, List.set_cons_succ]
  refine st_load m (.tmp 37) ⟨w.heap.size, 0, none⟩ (by kernel_rfl) rfl (by kernel_rfl) c0 ?_
  simp only [Act.put, List.setIfInBounds_toArray, List.set_cons_zero, List.set_cons_succ]
  refine st_run (v := .int .i64 (IntKind.i64.wrap (2 * m))) (.int .i64 M) (by kernel_rfl) (by kernel_rfl) (congrArg (Value.int .i64) WM.out) ?_
  simp only [Act.put, List.setIfInBounds_toArray, List.set_cons_zero, List.set_cons_succ]
  refine st_run (v := .int .i64 (IntKind.i64.wrap (M + 1))) (.int .i64 p) (by kernel_rfl) (by kernel_rfl) (congrArg (Value.int .i64) WP.out) ?_
  simp only [Act.put, List.setIfInBounds_toArray, List.set_cons_zero, List.set_cons_succ]
  refine st_run (v := .bool (p == p)) (.bool true) (by kernel_rfl) (by kernel_rfl) (congrArg Value.bool F6) ?_
  simp only [Act.put, List.setIfInBounds_toArray, List.set_cons_zero, List.set_cons_succ]
  refine st_run (v := .bool true) (.bool true) (by kernel_rfl) (by kernel_rfl) rfl ?_
  simp only [Act.put, List.setIfInBounds_toArray, List.set_cons_zero, List.set_cons_succ]
  refine st_run (v := .bool true) (.bool true) (by kernel_rfl) (by kernel_rfl) rfl ?_
  simp only [Act.put, List.setIfInBounds_toArray, List.set_cons_zero, List.set_cons_succ]
  refine st_run (v := .bool true) (.bool true) (by kernel_rfl) (by kernel_rfl) rfl ?_
  simp only [Act.put, List.setIfInBounds_toArray, List.set_cons_zero, List.set_cons_succ]
  refine st_run (v := .pointer (some ⟨w.heap.size + 1, 1, none⟩)) (.pointer (some ⟨w.heap.size + 1, 1, none⟩)) (by kernel_rfl) (by kernel_rfl) rfl ?_
  simp only [Act.put, List.setIfInBounds_toArray, List.set_cons_zero, List.set_cons_succ]
  refine st_load q (.tmp 45) ⟨w.heap.size + 1, 1, none⟩ (by kernel_rfl) rfl (by kernel_rfl) d1 ?_
  simp only [Act.put, List.setIfInBounds_toArray, List.set_cons_zero, List.set_cons_succ]
  refine st_run (v := .pointer (some ⟨w.heap.size, 1, none⟩)) (.pointer (some ⟨w.heap.size, 1, none⟩)) (by kernel_rfl) (by kernel_rfl) rfl ?_
  simp only [Act.put, List.setIfInBounds_toArray, List.set_cons_zero, List.set_cons_succ]
  refine st_load n (.tmp 47) ⟨w.heap.size, 1, none⟩ (by kernel_rfl) rfl (by kernel_rfl) c1 ?_
  simp only [Act.put, List.setIfInBounds_toArray, List.set_cons_zero, List.set_cons_succ]
  refine st_run (v := .int .i64 (IntKind.i64.wrap (2 * n))) (.int .i64 N) (by kernel_rfl) (by kernel_rfl) (congrArg (Value.int .i64) WN.out) ?_
  simp only [Act.put, List.setIfInBounds_toArray, List.set_cons_zero, List.set_cons_succ]
  refine st_run (v := .bool (q == N)) (.bool false) (by kernel_rfl) (by kernel_rfl) (congrArg Value.bool F7) ?_
  simp only [Act.put, List.setIfInBounds_toArray, List.set_cons_zero, List.set_cons_succ]
  refine st_run (v := .bool false) (.bool false) (by kernel_rfl) (by kernel_rfl) rfl ?_
  simp only [Act.put, List.setIfInBounds_toArray, List.set_cons_zero, List.set_cons_succ]
  refine st_run (v := .pointer (some ⟨w.heap.size + 1, 1, none⟩)) (.pointer (some ⟨w.heap.size + 1, 1, none⟩)) (by kernel_rfl) (by kernel_rfl) rfl ?_
  simp only [Act.put, List.setIfInBounds_toArray, List.set_cons_zero, List.set_cons_succ]
  refine st_load q (.tmp 52) ⟨w.heap.size + 1, 1, none⟩ (by kernel_rfl) rfl (by kernel_rfl) d1 ?_
  simp only [Act.put, List.setIfInBounds_toArray, List.set_cons_zero, List.set_cons_succ]
  refine st_run (v := .pointer (some ⟨w.heap.size, 1, none⟩)) (.pointer (some ⟨w.heap.size, 1, none⟩)) (by kernel_rfl) (by kernel_rfl) rfl ?_
  simp only [Act.put, List.setIfInBounds_toArray, List.set_cons_zero, List.set_cons_succ]
  refine st_load n (.tmp 54) ⟨w.heap.size, 1, none⟩ (by kernel_rfl) rfl (by kernel_rfl) c1 ?_
  simp only [Act.put, List.setIfInBounds_toArray, List.set_cons_zero, List.set_cons_succ]
  refine st_run (v := .int .i64 (IntKind.i64.wrap (2 * n))) (.int .i64 N) (by kernel_rfl) (by kernel_rfl) (congrArg (Value.int .i64) WN.out) ?_
  simp only [Act.put, List.setIfInBounds_toArray, List.set_cons_zero, List.set_cons_succ]
  refine st_run (v := .int .i64 (IntKind.i64.wrap (N - 1))) (.int .i64 q) (by kernel_rfl) (by kernel_rfl) (congrArg (Value.int .i64) WQ.out) ?_
  simp only [Act.put, List.setIfInBounds_toArray, List.set_cons_zero, List.set_cons_succ]
  refine st_run (v := .bool (q == q)) (.bool true) (by kernel_rfl) (by kernel_rfl) (congrArg Value.bool F8) ?_
  simp only [Act.put, List.setIfInBounds_toArray, List.set_cons_zero, List.set_cons_succ]
  refine st_run (v := .bool true) (.bool true) (by kernel_rfl) (by kernel_rfl) rfl ?_
  simp only [Act.put, List.setIfInBounds_toArray, List.set_cons_zero, List.set_cons_succ]
  refine st_run (v := .bool true) (.bool true) (by kernel_rfl) (by kernel_rfl) rfl ?_
  simp only [Act.put, List.setIfInBounds_toArray, List.set_cons_zero, List.set_cons_succ]
  refine st_run (v := .bool true) (.bool true) (by kernel_rfl) (by kernel_rfl) rfl ?_
  simp only [Act.put, List.setIfInBounds_toArray, List.set_cons_zero, List.set_cons_succ]
  refine st_run (v := .pointer (some ⟨w.heap.size, 0, none⟩)) (.pointer (some ⟨w.heap.size, 0, none⟩)) (by kernel_rfl) (by kernel_rfl) rfl ?_
  simp only [Act.put, List.setIfInBounds_toArray, List.set_cons_zero, List.set_cons_succ]
  refine st_load m (.tmp 62) ⟨w.heap.size, 0, none⟩ (by kernel_rfl) rfl (by kernel_rfl) c0 ?_
  simp only [Act.put, List.setIfInBounds_toArray, List.set_cons_zero, List.set_cons_succ]
  refine st_run (v := .pointer (some ⟨w.heap.size, 1, none⟩)) (.pointer (some ⟨w.heap.size, 1, none⟩)) (by kernel_rfl) (by kernel_rfl) rfl ?_
  simp only [Act.put, List.setIfInBounds_toArray, List.set_cons_zero, List.set_cons_succ]
  refine st_load n (.tmp 64) ⟨w.heap.size, 1, none⟩ (by kernel_rfl) rfl (by kernel_rfl) c1 ?_
  simp only [Act.put, List.setIfInBounds_toArray, List.set_cons_zero, List.set_cons_succ]
  refine st_run (v := .bool (decide (m < n))) (.bool false) (by kernel_rfl) (by kernel_rfl) (congrArg Value.bool F9) ?_
  simp only [Act.put, List.setIfInBounds_toArray, List.set_cons_zero, List.set_cons_succ]
  refine st_run (v := .bool false) (.bool false) (by kernel_rfl) (by kernel_rfl) rfl ?_
  simp only [Act.put, List.setIfInBounds_toArray, List.set_cons_zero, List.set_cons_succ]
  refine st_run (v := .pointer (some ⟨w.heap.size + 1, 0, none⟩)) (.pointer (some ⟨w.heap.size + 1, 0, none⟩)) (by kernel_rfl) (by kernel_rfl) rfl ?_
  simp only [Act.put, List.setIfInBounds_toArray, List.set_cons_zero, List.set_cons_succ]
  refine st_load p (.tmp 68) ⟨w.heap.size + 1, 0, none⟩ (by kernel_rfl) rfl (by kernel_rfl) d0 ?_
  simp only [Act.put, List.setIfInBounds_toArray, List.set_cons_zero, List.set_cons_succ]
  refine st_run (v := .pointer (some ⟨w.heap.size + 1, 1, none⟩)) (.pointer (some ⟨w.heap.size + 1, 1, none⟩)) (by kernel_rfl) (by kernel_rfl) rfl ?_
  simp only [Act.put, List.setIfInBounds_toArray, List.set_cons_zero, List.set_cons_succ]
  refine st_load q (.tmp 70) ⟨w.heap.size + 1, 1, none⟩ (by kernel_rfl) rfl (by kernel_rfl) d1 ?_
  simp only [Act.put, List.setIfInBounds_toArray, List.set_cons_zero, List.set_cons_succ]
  refine st_run (v := .bool (p == q)) (.bool true) (by kernel_rfl) (by kernel_rfl) (congrArg Value.bool F0) ?_
  simp only [Act.put, List.setIfInBounds_toArray, List.set_cons_zero, List.set_cons_succ]
  refine st_run (v := .bool true) (.bool true) (by kernel_rfl) (by kernel_rfl) rfl ?_
  simp only [Act.put, List.setIfInBounds_toArray, List.set_cons_zero, List.set_cons_succ]
  refine st_run (v := .bool true) (.bool true) (by kernel_rfl) (by kernel_rfl) rfl ?_
  simp only [Act.put, List.setIfInBounds_toArray, List.set_cons_zero, List.set_cons_succ]
  refine st_run (v := .bool true) (.bool true) (by kernel_rfl) (by kernel_rfl) rfl ?_
  simp only [Act.put, List.setIfInBounds_toArray, List.set_cons_zero, List.set_cons_succ]
  refine st_nil ?_
  go_wp2
  go_ret
  exact ⟨rfl, HB.out⟩
theorem beq_self_t (m : Int) : (m == m) = true := by simp
theorem doubles_any (m n p q : Int) (w : World) (h1 : m ≤ n) (h2 : p ≤ q) (h3 : 0 ≤ m) (h4 : n < 1099511627776) (h5 : p = 2 * m ∨ p = 2 * m + 1) (h6 : q = 2 * n ∨ q = 2 * n - 1) (h7 : m < n ∨ p = q) : Calls Tryd.prog 27 #[.agg #[.int .i64 m, .int .i64 n], .agg #[.int .i64 p, .int .i64 q]] w fun e w' => e = .returned (.bool true) ∧ Below w.heap.size w w' := by
  obtain ⟨M, hM⟩ : ∃ M, M = 2 * m := ⟨_, rfl⟩
  obtain ⟨N, hN⟩ : ∃ N, N = 2 * n := ⟨_, rfl⟩
  have wM : IntKind.i64.wrap (2 * m) = M := by rw [← hM]; exact IntWalk.i64_in _ (by omega)
  have wN : IntKind.i64.wrap (2 * n) = N := by rw [← hN]; exact IntWalk.i64_in _ (by omega)
  have wM1 : IntKind.i64.wrap (M + 1) = M + 1 := IntWalk.i64_in _ (by omega)
  have wN1 : IntKind.i64.wrap (N - 1) = N - 1 := IntWalk.i64_in _ (by omega)
  have f1 : decide (m ≤ n) = true := decide_eq_true h1
  have f3 : decide (0 ≤ m) = true := decide_eq_true h3
  have f4 : decide (n < 1099511627776) = true := decide_eq_true h4
  have f2 : decide (p ≤ q) = true := decide_eq_true h2
  have g5 : (M + 1 == M) = false := by simp; omega
  have g7 : (N - 1 == N) = false := by simp; omega
  rw [← hM] at h5
  rw [← hN] at h6
  by_cases hl : m < n
  · have f9 : decide (m < n) = true := decide_eq_true hl
    rcases h5 with h5 | h5 <;> rcases h6 with h6 | h6 <;> subst h5 <;> subst h6
    · exact dbl000 m n _ _ w f1 f2 f3 f4 wM wN (beq_self_t _) (beq_self_t _) f9
    · exact dbl010 m n _ _ _ w f1 f2 f3 f4 wM wN (beq_self_t _) g7 wN1 (beq_self_t _) f9
    · exact dbl100 m n _ _ _ w f1 f2 f3 f4 wM wN g5 wM1 (beq_self_t _) (beq_self_t _) f9
    · exact dbl110 m n _ _ _ _ w f1 f2 f3 f4 wM wN g5 wM1 (beq_self_t _) g7 wN1 (beq_self_t _) f9
  · have f9 : decide (m < n) = false := decide_eq_false hl
    have f0 : (p == q) = true := by simp; omega
    rcases h5 with h5 | h5 <;> rcases h6 with h6 | h6 <;> subst h5 <;> subst h6
    · exact dbl001 m n _ _ w f1 f2 f3 f4 wM wN (beq_self_t _) (beq_self_t _) f9 f0
    · exact dbl011 m n _ _ _ w f1 f2 f3 f4 wM wN (beq_self_t _) g7 wN1 (beq_self_t _) f9 f0
    · exact dbl101 m n _ _ _ w f1 f2 f3 f4 wM wN g5 wM1 (beq_self_t _) (beq_self_t _) f9 f0
    · exact dbl111 m n _ _ _ _ w f1 f2 f3 f4 wM wN g5 wM1 (beq_self_t _) g7 wN1 (beq_self_t _) f9 f0
end Go.Proofs.YtkoghdgfllichaaDoor.Pc
