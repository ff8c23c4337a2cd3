import Derived.Test.YtlmcafcebidliaaDoorKC5
import Derived.Test.YtlmcafcebidliaaDoorRG4
import Derived.Laws.StructEq
import Derived.ChangeKeysEq
import Derived.Test.YtlmcafcebidliaaDoorTPC
import Derived.Test.YtlmcafcebidliaaDoorTA19
namespace Go.Proofs.YtlmcafcebidliaaDoor
open Go.RowKit

theorem Tryd.infoI : (Tryd.prog.info? 3).map (fun i => (i.zero, i.size, i.bytes)) = some (some (.int .i64 0), 1, 8) := by kernel_rfl
theorem part_i64 (xs : Array Value) (i : Nat) (x : Value) (h : xs[i]? = some x) (w : World) : (part 3 xs i).run Tryd.prog w = .ok x w := by
  have ha : (isAgg 3).run Tryd.prog w = .ok false w := Tryd.isAgg3 w
  unfold part
  simp only [Sem.run_bind, ha, Result.andThen_ok, Bool.false_eq_true, if_false, h, Sem.run_pure]
theorem items_int (d : Nat) (xs ys : Array Value) : ∀ (is : List Nat) (f g : Nat → Int), (∀ i ∈ is, xs[i]? = some (.int .i64 (f i)) ∧ ys[i]? = some (.int .i64 (g i))) → ∀ w, (Op.eqItems (d + 1) 3 1 xs ys is).run Tryd.prog w = .ok (is.all fun i => f i == g i) w
  | [], _, _, _, w => by simp [Op.eqItems]
  | i :: is, f, g, h, w => by
    obtain ⟨h1, h2⟩ := h i (by simp)
    have ih := items_int d xs ys is f g (fun j hj => h j (by simp [hj])) w
    unfold Op.eqItems
    simp only [Sem.run_bind, Nat.mul_one, part_i64 xs i _ h1, part_i64 ys i _ h2, Result.andThen_ok, run_equalIn_int w d 3 .i64 .i64 _ _ Tryd.underlying3]
    by_cases h3 : f i = g i
    · have e : (f i == g i) = true := by simp [h3]
      simp only [e, Bool.not_true, Bool.false_eq_true, if_false]
      rw [ih, List.all_cons, e, Bool.true_and]
    · have e : (f i == g i) = false := by simp [h3]
      simp only [e, Bool.not_false, if_true, Sem.run_pure]
      rw [List.all_cons, e, Bool.false_and]
theorem eq_array (d : Nat) (x0 x1 x2 x3 x4 x5 y0 y1 y2 y3 y4 y5 : Int) (w : World) :
    (Op.equalIn (d + 2) 38 (.agg #[.int .i64 x0, .int .i64 x1, .int .i64 x2, .int .i64 x3, .int .i64 x4, .int .i64 x5]) (.agg #[.int .i64 y0, .int .i64 y1, .int .i64 y2, .int .i64 y3, .int .i64 y4, .int .i64 y5])).run Tryd.prog w = .ok (x0 == y0 && (x1 == y1 && (x2 == y2 && (x3 == y3 && (x4 == y4 && x5 == y5))))) w := by
  obtain ⟨i0, hi0, -, -, -⟩ := info_parts Tryd.infoI
  have hc : Tryd.prog.cellsOf 3 = 1 := by kernel_rfl
  rw [run_equalIn_array w (d + 1) _ _ Tryd.underlying38 hi0, hc]
  rw [items_int d _ _ (List.range 6) (fun i => [x0, x1, x2, x3, x4, x5].getD i 0) (fun i => [y0, y1, y2, y3, y4, y5].getD i 0)]
  · simp [List.range_succ]
  · intro i hi
    have hi6 : i < 6 := by simpa using hi
    match i, hi6 with
    | 0, _ => exact ⟨rfl, rfl⟩
    | 1, _ => exact ⟨rfl, rfl⟩
    | 2, _ => exact ⟨rfl, rfl⟩
    | 3, _ => exact ⟨rfl, rfl⟩
    | 4, _ => exact ⟨rfl, rfl⟩
    | 5, _ => exact ⟨rfl, rfl⟩
def eqR (x0 x1 x2 x3 x4 x5 xd y0 y1 y2 y3 y4 y5 yd : Int) : Bool := x0 == y0 && (x1 == y1 && (x2 == y2 && (x3 == y3 && (x4 == y4 && (x5 == y5 && xd == yd)))))
theorem eq_ratio (d : Nat) (x0 x1 x2 x3 x4 x5 xd y0 y1 y2 y3 y4 y5 yd : Int) (w : World) :
    (Op.equalIn (d + 3) 40 (.agg #[.int .i64 x0, .int .i64 x1, .int .i64 x2, .int .i64 x3, .int .i64 x4, .int .i64 x5, .int .i64 xd]) (.agg #[.int .i64 y0, .int .i64 y1, .int .i64 y2, .int .i64 y3, .int .i64 y4, .int .i64 y5, .int .i64 yd])).run Tryd.prog w = .ok (eqR x0 x1 x2 x3 x4 x5 xd y0 y1 y2 y3 y4 y5 yd) w := by
  have hf : Tryd.prog.fieldsOf 40 = #[{ name := "Num", type := 38, offset := 0, embedded := false, tag := "", pkgPath := "", byteOffset := 0 }, { name := "Den", type := 3, offset := 6, embedded := false, tag := "", pkgPath := "", byteOffset := 48 }] := by kernel_rfl
  rw [run_equalIn_struct w (d + 2) 40 _ _ (by kernel_rfl) (by kernel_rfl), hf]
  have pa : ∀ (z0 z1 z2 z3 z4 z5 zd : Int) (w : World), (part 38 #[.int .i64 z0, .int .i64 z1, .int .i64 z2, .int .i64 z3, .int .i64 z4, .int .i64 z5, .int .i64 zd] 0).run Tryd.prog w = .ok (.agg #[.int .i64 z0, .int .i64 z1, .int .i64 z2, .int .i64 z3, .int .i64 z4, .int .i64 z5]) w := fun _ _ _ _ _ _ _ w => by
    have ha : (isAgg 38).run Tryd.prog w = .ok true w := Tryd.isAgg38 w
    have hs : (sizeOf 38).run Tryd.prog w = .ok 6 w := Tryd.sizeOf38 w
    unfold part
    simp only [Sem.run_bind, ha, Result.andThen_ok, if_true, hs]
    rfl
  show (Op.eqFields (d + 2) _ _ [_, _]).run Tryd.prog w = _
  unfold Op.eqFields
  simp only [show ("Num" : String) ≠ "_" by decide, if_true, ne_eq, not_false_eq_true, Sem.run_bind, pa, Result.andThen_ok, eq_array]
  generalize hA : (x0 == y0 && (x1 == y1 && (x2 == y2 && (x3 == y3 && (x4 == y4 && x5 == y5))))) = A
  have e : eqR x0 x1 x2 x3 x4 x5 xd y0 y1 y2 y3 y4 y5 yd = (A && xd == yd) := by
    unfold eqR
    rw [← hA]
    simp only [Bool.and_assoc]
  rw [e]
  cases A with
  | false => simp
  | true =>
    simp only [Bool.not_true, Bool.false_eq_true, if_false]
    unfold Op.eqFields
    simp only [show ("Den" : String) ≠ "_" by decide, if_true, ne_eq, not_false_eq_true, Sem.run_bind, part_i64 #[.int .i64 x0, .int .i64 x1, .int .i64 x2, .int .i64 x3, .int .i64 x4, .int .i64 x5, .int .i64 xd] 6 (.int .i64 xd) rfl, part_i64 #[.int .i64 y0, .int .i64 y1, .int .i64 y2, .int .i64 y3, .int .i64 y4, .int .i64 y5, .int .i64 yd] 6 (.int .i64 yd) rfl, Result.andThen_ok, run_equalIn_int w (d + 1) 3 .i64 .i64 _ _ Tryd.underlying3]
    by_cases h : xd = yd
    · have e : (xd == yd) = true := by simp [h]
      simp [e, Op.eqFields]
    · have e : (xd == yd) = false := by simp [h]
      simp [e]
theorem eql_ratio (x0 x1 x2 x3 x4 x5 xd y0 y1 y2 y3 y4 y5 yd : Int) (w : World) : (binOp .eql 40 (.agg #[.int .i64 x0, .int .i64 x1, .int .i64 x2, .int .i64 x3, .int .i64 x4, .int .i64 x5, .int .i64 xd]) (.agg #[.int .i64 y0, .int .i64 y1, .int .i64 y2, .int .i64 y3, .int .i64 y4, .int .i64 y5, .int .i64 yd])).run Tryd.prog w = .ok (.bool (eqR x0 x1 x2 x3 x4 x5 xd y0 y1 y2 y3 y4 y5 yd)) w := by
  rw [run_eql_struct, eq_ratio 9997]
  rfl
theorem neq_ratio (x0 x1 x2 x3 x4 x5 xd y0 y1 y2 y3 y4 y5 yd : Int) (w : World) : (binOp .neq 40 (.agg #[.int .i64 x0, .int .i64 x1, .int .i64 x2, .int .i64 x3, .int .i64 x4, .int .i64 x5, .int .i64 xd]) (.agg #[.int .i64 y0, .int .i64 y1, .int .i64 y2, .int .i64 y3, .int .i64 y4, .int .i64 y5, .int .i64 yd])).run Tryd.prog w = .ok (.bool (!(eqR x0 x1 x2 x3 x4 x5 xd y0 y1 y2 y3 y4 y5 yd))) w := by
  rw [run_neq_struct, eq_ratio 9997]
  rfl
theorem eqR_self (x0 x1 x2 x3 x4 x5 xd : Int) : eqR x0 x1 x2 x3 x4 x5 xd x0 x1 x2 x3 x4 x5 xd = true := by simp [eqR]
theorem eql_self (x0 x1 x2 x3 x4 x5 xd : Int) (w : World) : (binOp .eql 40 (.agg #[.int .i64 x0, .int .i64 x1, .int .i64 x2, .int .i64 x3, .int .i64 x4, .int .i64 x5, .int .i64 xd]) (.agg #[.int .i64 x0, .int .i64 x1, .int .i64 x2, .int .i64 x3, .int .i64 x4, .int .i64 x5, .int .i64 xd])).run Tryd.prog w = .ok (.bool true) w := by
  rw [eql_ratio, eqR_self]
theorem neq_self (x0 x1 x2 x3 x4 x5 xd : Int) (w : World) : (binOp .neq 40 (.agg #[.int .i64 x0, .int .i64 x1, .int .i64 x2, .int .i64 x3, .int .i64 x4, .int .i64 x5, .int .i64 xd]) (.agg #[.int .i64 x0, .int .i64 x1, .int .i64 x2, .int .i64 x3, .int .i64 x4, .int .i64 x5, .int .i64 xd])).run Tryd.prog w = .ok (.bool false) w := by
  rw [neq_ratio, eqR_self]; rfl
end Go.Proofs.YtlmcafcebidliaaDoor
namespace Go.Proofs.YtlmcafcebidliaaDoor.Tp
open Go.RowKit

/-! The law on intervals one after the other. -/
def eqRt (x y : Rt) : Bool := eqR x.v.a x.v.b x.v.c x.v.d x.v.e x.v.f x.d y.v.a y.v.b y.v.c y.v.d y.v.e y.v.f y.d
theorem eqRt_iff {x y : Rt} : eqRt x y = true ↔ x = y := by
  unfold eqRt eqR
  simp only [Bool.and_eq_true, beq_iff_eq]
  constructor
  · rintro ⟨h0, h1, h2, h3, h4, h5, h6⟩
    exact Rt.eq (V6.eq h0 h1 h2 h3 h4 h5) h6
  · rintro rfl
    exact ⟨rfl, rfl, rfl, rfl, rfl, rfl, rfl⟩
theorem eqlR (x y : Rt) (w : World) : (binOp .eql 40 (cR x) (cR y)).run Tryd.prog w = .ok (.bool (eqRt x y)) w := eql_ratio _ _ _ _ _ _ _ _ _ _ _ _ _ _ w
theorem neqR (x y : Rt) (w : World) : (binOp .neq 40 (cR x) (cR y)).run Tryd.prog w = .ok (.bool (!eqRt x y)) w := neq_ratio _ _ _ _ _ _ _ _ _ _ _ _ _ _ w
theorem rMulR (x y : Rt) (w : World) : Calls Tryd.prog 18 #[cR x, cR y] w fun e w' => e = .returned (.tuple #[cR (bothW x y 1).1, .int .i64 (bothW x y 1).2]) ∧ Below w.heap.size w w' := rMul_any x.v.a x.v.b x.v.c x.v.d x.v.e x.v.f x.d y.v.a y.v.b y.v.c y.v.d y.v.e y.v.f y.d w
theorem lofR (num den : Int) (w : World) : Calls Tryd.prog 17 #[.int .i64 num, .int .i64 den] w fun e w' => e = .returned (cR (ofW num den).1) ∧ Below w.heap.size w w' := lawOf_any num den w
end Go.Proofs.YtlmcafcebidliaaDoor.Tp
namespace Go.Proofs.YtlmcafcebidliaaDoor.Tp
open Go.RowKit

/-! A temperament equals itself. -/
theorem part_two {ps : List (Int × Int)} {i : Nat} {p : Int × Int} (h : ps[i]? = some p) (w : World) : (part 23 (fl2 ps).toArray (i * 2)).run Tryd.prog w = .ok (.agg #[.int .i64 p.1, .int .i64 p.2]) w := by
  obtain ⟨h1, h2⟩ := fl2_at h
  have hx := extract_two h1 h2
  have ha : (isAgg 23).run Tryd.prog w = .ok true w := Tryd.isAgg23 w
  have hs : (sizeOf 23).run Tryd.prog w = .ok 2 w := Tryd.sizeOf23 w
  unfold part
  simp only [Sem.run_bind, ha, Result.andThen_ok, if_true, hs]
  rw [Nat.mul_comm i 2, hx]
  rfl
theorem items_self (d : Nat) {ps : List (Int × Int)} (hl : ps.length = 12) : ∀ (is : List Nat), (∀ i ∈ is, i < 12) → ∀ w, (Op.eqItems (d + 2) 23 2 (fl2 ps).toArray (fl2 ps).toArray is).run Tryd.prog w = .ok true w
  | [], _, w => by simp [Op.eqItems]
  | i :: is, h, w => by
    have h1 := h i (by simp)
    obtain ⟨p, hp⟩ : ∃ p, ps[i]? = some p := ⟨ps[i]'(by omega), List.getElem?_eq_getElem _⟩
    have ih := items_self d hl is (fun j hj => h j (by simp [hj])) w
    unfold Op.eqItems
    simp only [Sem.run_bind, part_two hp, Result.andThen_ok, eq_part]
    rw [show (p.1 == p.1 && p.2 == p.2) = true by simp]
    simp only [Bool.not_true, Bool.false_eq_true, if_false]
    exact ih
theorem eq_parts (d : Nat) {ps : List (Int × Int)} (hl : ps.length = 12) (w : World) : (Op.equalIn (d + 3) 24 (.agg (fl2 ps).toArray) (.agg (fl2 ps).toArray)).run Tryd.prog w = .ok true w := by
  have hp2 : ∃ i, Tryd.prog.info? 23 = some i := by
    cases h : Tryd.prog.info? 23 with
    | some i => exact ⟨i, rfl⟩
    | none => exact absurd (congrArg Option.isSome h) (by rw [show (Tryd.prog.info? 23).isSome = true by kernel_rfl]; decide)
  obtain ⟨i0, hi0⟩ := hp2
  have hc : Tryd.prog.cellsOf 23 = 2 := by kernel_rfl
  rw [run_equalIn_array w (d + 2) _ _ Tryd.underlying24 hi0, hc]
  exact items_self d hl _ (fun i hi => by simpa using hi) w
theorem part_low {t : TypeId} {xs : Array Value} {i : Nat} {x : Value} (w : World) (ha : (isAgg t).run Tryd.prog w = .ok false w) (h : xs[i]? = some x) : (part t xs i).run Tryd.prog w = .ok x w := by
  unfold part
  simp only [Sem.run_bind, ha, Result.andThen_ok, Bool.false_eq_true, if_false, h, Sem.run_pure]
theorem part_parts {T : Tm} (hl : T.ps.length = 12) (w : World) : (part 24 (tmV T).toArray 3).run Tryd.prog w = .ok (.agg (fl2 T.ps).toArray) w := by
  have ha : (isAgg 24).run Tryd.prog w = .ok true w := Tryd.isAgg24 w
  have hs : (sizeOf 24).run Tryd.prog w = .ok 24 w := Tryd.sizeOf24 w
  have hx : (tmV T).toArray.extract 3 (3 + 24) = (fl2 T.ps).toArray := by
    have e : (fl2 T.ps).length = 24 := by rw [fl2_len, hl]
    rw [List.extract_toArray]
    show (List.extract (_ :: _ :: _ :: fl2 T.ps) 3 (3 + 24)).toArray = _
    rw [List.extract_eq_take_drop]
    show (List.take (3 + 24 - 3) (fl2 T.ps)).toArray = _
    rw [List.take_of_length_le (by rw [e]; decide)]
  unfold part
  simp only [Sem.run_bind, ha, Result.andThen_ok, if_true, hs, hx, Sem.run_pure]
theorem eq_temper {T : Tm} (hl : T.ps.length = 12) (w : World) : (binOp .eql 26 (.agg (tmV T).toArray) (.agg (tmV T).toArray)).run Tryd.prog w = .ok (.bool true) w := by
  rw [run_eql_struct]
  have hf : Tryd.prog.fieldsOf 26 = #[{ name := "Name", type := 9, offset := 0, embedded := false, tag := "", pkgPath := "", byteOffset := 0 }, { name := "Syntonic", type := 4, offset := 1, embedded := false, tag := "", pkgPath := "", byteOffset := 16 }, { name := "Wolf", type := 3, offset := 2, embedded := false, tag := "", pkgPath := "", byteOffset := 24 }, { name := "Parts", type := 24, offset := 3, embedded := false, tag := "", pkgPath := "", byteOffset := 32 }] := by kernel_rfl
  have key : (Op.equalIn 10000 26 (.agg (tmV T).toArray) (.agg (tmV T).toArray)).run Tryd.prog w = .ok true w := by
    rw [run_equalIn_struct w 9999 26 _ _ (by kernel_rfl) (by kernel_rfl), hf]
    show (Op.eqFields 9999 _ _ [_, _, _, _]).run Tryd.prog w = _
    have p0 := part_low (xs := (tmV T).toArray) (i := 0) (x := .string T.nm) w (Tryd.isAgg9 w) rfl
    have p1 := part_low (xs := (tmV T).toArray) (i := 1) (x := .bool T.sy) w (Tryd.isAgg4 w) rfl
    have p2 := part_low (xs := (tmV T).toArray) (i := 2) (x := .int .i64 T.wo) w (Tryd.isAgg3 w) rfl
    have p3 := part_parts hl w
    unfold Op.eqFields
    simp only [show ("Name" : String) ≠ "_" by decide, if_true, ne_eq, not_false_eq_true, Sem.run_bind, p0, Result.andThen_ok, run_equalIn_string w 9998 9 _ _ Tryd.underlying9, beq_self_eq_true, Bool.not_true, Bool.false_eq_true, if_false]
    unfold Op.eqFields
    simp only [show ("Syntonic" : String) ≠ "_" by decide, if_true, ne_eq, not_false_eq_true, Sem.run_bind, p1, Result.andThen_ok, run_equalIn_bool' w 9998 4 _ _ Tryd.underlying4, beq_self_eq_true, Bool.not_true, Bool.false_eq_true, if_false]
    unfold Op.eqFields
    simp only [show ("Wolf" : String) ≠ "_" by decide, if_true, ne_eq, not_false_eq_true, Sem.run_bind, p2, Result.andThen_ok, run_equalIn_int w 9998 3 .i64 .i64 _ _ Tryd.underlying3, beq_self_eq_true, Bool.not_true, Bool.false_eq_true, if_false]
    unfold Op.eqFields
    simp only [show ("Parts" : String) ≠ "_" by decide, if_true, ne_eq, not_false_eq_true, Sem.run_bind, p3, Result.andThen_ok, eq_parts 9996 hl, Bool.not_true, Bool.false_eq_true, if_false]
    simp [Op.eqFields]
  rw [key]
  rfl
end Go.Proofs.YtlmcafcebidliaaDoor.Tp
