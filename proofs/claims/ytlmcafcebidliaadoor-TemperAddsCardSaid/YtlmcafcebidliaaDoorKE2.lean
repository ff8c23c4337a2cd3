import Derived.Test.YtlmcafcebidliaaDoorKC5
import Derived.Test.YtlmcafcebidliaaDoorRG4
import Derived.Laws.StructEq
import Derived.ChangeKeysEq
namespace Go.Proofs.YtlmcafcebidliaaDoor
open Go.RowKit

theorem Tryd.infoI : (Tryd.prog.info? 3).map (fun i => (i.zero, i.size, i.bytes)) = some (some (.int .i64 0), 1, 8) := by kernel_rfl
theorem part_i64 (xs : Array Value) (i : Nat) (x : Value) (h : xs[i]? = some x) (w : World) : (part 3 xs i).run Tryd.prog w = .ok x w := by
  have ha : (isAgg 3).run Tryd.prog w = .ok false w := Tryd.isAgg3 w
  unfold part
  simp only [Sem.run_bind, ha, Result.andThen_ok, Bool.false_eq_true, if_false, h, Sem.run_pure]
theorem items_int (d : Nat) (xs ys : Array Value) : ∀ (is : List Nat) (f g : Nat → Int), (∀ i ∈ is, xs[i]? = some (.int .i64 (f i)) ∧ ys[i]? = some (.int .i64 (g i))) → ∀ w, (Op.eqItems (d + 1) 3 1 xs ys is).run Tryd.prog w = .ok (is.all fun i => f i == g i) w
  | [], _, _, _, w => by simp [Op.eqItems]
  | i :: is, f, g, h, w => by
    obtain ⟨h1, h2⟩ := h i (by simp)
    have ih := items_int d xs ys is f g (fun j hj => h j (by simp [hj])) w
    unfold Op.eqItems
    simp only [Sem.run_bind, Nat.mul_one, part_i64 xs i _ h1, part_i64 ys i _ h2, Result.andThen_ok, run_equalIn_int w d 3 .i64 .i64 _ _ Tryd.underlying3]
    by_cases h3 : f i = g i
    · have e : (f i == g i) = true := by simp [h3]
      simp only [e, Bool.not_true, Bool.false_eq_true, if_false]
      rw [ih, List.all_cons, e, Bool.true_and]
    · have e : (f i == g i) = false := by simp [h3]
      simp only [e, Bool.not_false, if_true, Sem.run_pure]
      rw [List.all_cons, e, Bool.false_and]
theorem eq_array (d : Nat) (x0 x1 x2 x3 x4 x5 y0 y1 y2 y3 y4 y5 : Int) (w : World) :
    (Op.equalIn (d + 2) 38 (.agg #[.int .i64 x0, .int .i64 x1, .int .i64 x2, .int .i64 x3, .int .i64 x4, .int .i64 x5]) (.agg #[.int .i64 y0, .int .i64 y1, .int .i64 y2, .int .i64 y3, .int .i64 y4, .int .i64 y5])).run Tryd.prog w = .ok (x0 == y0 && (x1 == y1 && (x2 == y2 && (x3 == y3 && (x4 == y4 && x5 == y5))))) w := by
  obtain ⟨i0, hi0, -, -, -⟩ := info_parts Tryd.infoI
  have hc : Tryd.prog.cellsOf 3 = 1 := by kernel_rfl
  rw [run_equalIn_array w (d + 1) _ _ Tryd.underlying38 hi0, hc]
  rw [items_int d _ _ (List.range 6) (fun i => [x0, x1, x2, x3, x4, x5].getD i 0) (fun i => [y0, y1, y2, y3, y4, y5].getD i 0)]
  · simp [List.range_succ]
  · intro i hi
    have hi6 : i < 6 := by simpa using hi
    match i, hi6 with
    | 0, _ => exact ⟨rfl, rfl⟩
    | 1, _ => exact ⟨rfl, rfl⟩
    | 2, _ => exact ⟨rfl, rfl⟩
    | 3, _ => exact ⟨rfl, rfl⟩
    | 4, _ => exact ⟨rfl, rfl⟩
    | 5, _ => exact ⟨rfl, rfl⟩
def eqR (x0 x1 x2 x3 x4 x5 xd y0 y1 y2 y3 y4 y5 yd : Int) : Bool := x0 == y0 && (x1 == y1 && (x2 == y2 && (x3 == y3 && (x4 == y4 && (x5 == y5 && xd == yd)))))
theorem eq_ratio (d : Nat) (x0 x1 x2 x3 x4 x5 xd y0 y1 y2 y3 y4 y5 yd : Int) (w : World) :
    (Op.equalIn (d + 3) 40 (.agg #[.int .i64 x0, .int .i64 x1, .int .i64 x2, .int .i64 x3, .int .i64 x4, .int .i64 x5, .int .i64 xd]) (.agg #[.int .i64 y0, .int .i64 y1, .int .i64 y2, .int .i64 y3, .int .i64 y4, .int .i64 y5, .int .i64 yd])).run Tryd.prog w = .ok (eqR x0 x1 x2 x3 x4 x5 xd y0 y1 y2 y3 y4 y5 yd) w := by
  have hf : Tryd.prog.fieldsOf 40 = #[{ name := "Num", type := 38, offset := 0, embedded := false, tag := "", pkgPath := "", byteOffset := 0 }, { name := "Den", type := 3, offset := 6, embedded := false, tag := "", pkgPath := "", byteOffset := 48 }] := by kernel_rfl
  rw [run_equalIn_struct w (d + 2) 40 _ _ (by kernel_rfl) (by kernel_rfl), hf]
  have pa : ∀ (z0 z1 z2 z3 z4 z5 zd : Int) (w : World), (part 38 #[.int .i64 z0, .int .i64 z1, .int .i64 z2, .int .i64 z3, .int .i64 z4, .int .i64 z5, .int .i64 zd] 0).run Tryd.prog w = .ok (.agg #[.int .i64 z0, .int .i64 z1, .int .i64 z2, .int .i64 z3, .int .i64 z4, .int .i64 z5]) w := fun _ _ _ _ _ _ _ w => by
    have ha : (isAgg 38).run Tryd.prog w = .ok true w := Tryd.isAgg38 w
    have hs : (sizeOf 38).run Tryd.prog w = .ok 6 w := Tryd.sizeOf38 w
    unfold part
    simp only [Sem.run_bind, ha, Result.andThen_ok, if_true, hs]
    rfl
  show (Op.eqFields (d + 2) _ _ [_, _]).run Tryd.prog w = _
  unfold Op.eqFields
  simp only [show ("Num" : String) ≠ "_" by decide, if_true, ne_eq, not_false_eq_true, Sem.run_bind, pa, Result.andThen_ok, eq_array]
  generalize hA : (x0 == y0 && (x1 == y1 && (x2 == y2 && (x3 == y3 && (x4 == y4 && x5 == y5))))) = A
  have e : eqR x0 x1 x2 x3 x4 x5 xd y0 y1 y2 y3 y4 y5 yd = (A && xd == yd) := by
    unfold eqR
    rw [← hA]
    simp only [Bool.and_assoc]
  rw [e]
  cases A with
  | false => simp
  | true =>
    simp only [Bool.not_true, Bool.false_eq_true, if_false]
    unfold Op.eqFields
    simp only [show ("Den" : String) ≠ "_" by decide, if_true, ne_eq, not_false_eq_true, Sem.run_bind, part_i64 #[.int .i64 x0, .int .i64 x1, .int .i64 x2, .int .i64 x3, .int .i64 x4, .int .i64 x5, .int .i64 xd] 6 (.int .i64 xd) rfl, part_i64 #[.int .i64 y0, .int .i64 y1, .int .i64 y2, .int .i64 y3, .int .i64 y4, .int .i64 y5, .int .i64 yd] 6 (.int .i64 yd) rfl, Result.andThen_ok, run_equalIn_int w (d + 1) 3 .i64 .i64 _ _ Tryd.underlying3]
    by_cases h : xd = yd
    · have e : (xd == yd) = true := by simp [h]
      simp [e, Op.eqFields]
    · have e : (xd == yd) = false := by simp [h]
      simp [e]
theorem eql_ratio (x0 x1 x2 x3 x4 x5 xd y0 y1 y2 y3 y4 y5 yd : Int) (w : World) : (binOp .eql 40 (.agg #[.int .i64 x0, .int .i64 x1, .int .i64 x2, .int .i64 x3, .int .i64 x4, .int .i64 x5, .int .i64 xd]) (.agg #[.int .i64 y0, .int .i64 y1, .int .i64 y2, .int .i64 y3, .int .i64 y4, .int .i64 y5, .int .i64 yd])).run Tryd.prog w = .ok (.bool (eqR x0 x1 x2 x3 x4 x5 xd y0 y1 y2 y3 y4 y5 yd)) w := by
  rw [run_eql_struct, eq_ratio 9997]
  rfl
theorem neq_ratio (x0 x1 x2 x3 x4 x5 xd y0 y1 y2 y3 y4 y5 yd : Int) (w : World) : (binOp .neq 40 (.agg #[.int .i64 x0, .int .i64 x1, .int .i64 x2, .int .i64 x3, .int .i64 x4, .int .i64 x5, .int .i64 xd]) (.agg #[.int .i64 y0, .int .i64 y1, .int .i64 y2, .int .i64 y3, .int .i64 y4, .int .i64 y5, .int .i64 yd])).run Tryd.prog w = .ok (.bool (!(eqR x0 x1 x2 x3 x4 x5 xd y0 y1 y2 y3 y4 y5 yd))) w := by
  rw [run_neq_struct, eq_ratio 9997]
  rfl
theorem eqR_self (x0 x1 x2 x3 x4 x5 xd : Int) : eqR x0 x1 x2 x3 x4 x5 xd x0 x1 x2 x3 x4 x5 xd = true := by simp [eqR]
theorem eql_self (x0 x1 x2 x3 x4 x5 xd : Int) (w : World) : (binOp .eql 40 (.agg #[.int .i64 x0, .int .i64 x1, .int .i64 x2, .int .i64 x3, .int .i64 x4, .int .i64 x5, .int .i64 xd]) (.agg #[.int .i64 x0, .int .i64 x1, .int .i64 x2, .int .i64 x3, .int .i64 x4, .int .i64 x5, .int .i64 xd])).run Tryd.prog w = .ok (.bool true) w := by
  rw [eql_ratio, eqR_self]
theorem neq_self (x0 x1 x2 x3 x4 x5 xd : Int) (w : World) : (binOp .neq 40 (.agg #[.int .i64 x0, .int .i64 x1, .int .i64 x2, .int .i64 x3, .int .i64 x4, .int .i64 x5, .int .i64 xd]) (.agg #[.int .i64 x0, .int .i64 x1, .int .i64 x2, .int .i64 x3, .int .i64 x4, .int .i64 x5, .int .i64 xd])).run Tryd.prog w = .ok (.bool false) w := by
  rw [neq_ratio, eqR_self]; rfl
end Go.Proofs.YtlmcafcebidliaaDoor
