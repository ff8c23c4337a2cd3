import Derived.Test.YtokkcmadgcdpiaaDoorKE2
namespace Go.Proofs.YtokkcmadgcdpiaaDoor
open Go.RowKit

/-! Equality of terms; the law's Same. -/
theorem eq_term (d : Nat) (x y a b : Int) (w : World) : (Op.equalIn (d + 2) 63 (.agg #[.int .i64 x, .int .i64 y]) (.agg #[.int .i64 a, .int .i64 b])).run Tryd.prog w = .ok (x == a && y == b) w := by
  have hf : Tryd.prog.fieldsOf 63 = #[{ name := "N", type := 2, offset := 0, embedded := false, tag := "", pkgPath := "", byteOffset := 0 }, { name := "Num", type := 2, offset := 1, embedded := false, tag := "", pkgPath := "", byteOffset := 8 }] := by kernel_rfl
  rw [run_equalIn_struct w (d + 1) 63 _ _ (by kernel_rfl) (by kernel_rfl), hf]
  have pa : ∀ (xs : Array Value) (i : Nat) (z : Value) (h : xs[i]? = some z) (w : World), (part 2 xs i).run Tryd.prog w = .ok z w := fun xs i z h w => by
    have ha : (isAgg 2).run Tryd.prog w = .ok false w := Tryd.isAgg2 w
    unfold part
    simp only [Sem.run_bind, ha, Result.andThen_ok, Bool.false_eq_true, if_false, h, Sem.run_pure]
  show (Op.eqFields (d + 1) _ _ [_, _]).run Tryd.prog w = _
  unfold Op.eqFields
  simp only [show ("N" : String) ≠ "_" by decide, if_true, ne_eq, not_false_eq_true, Sem.run_bind, pa #[.int .i64 x, .int .i64 y] 0 (.int .i64 x) rfl, pa #[.int .i64 a, .int .i64 b] 0 (.int .i64 a) rfl, Result.andThen_ok, run_equalIn_int w d 2 .i64 .i64 _ _ Tryd.underlying2]
  by_cases h : x = a
  · have e : (x == a) = true := by simp [h]
    simp only [e, Bool.not_true, Bool.false_eq_true, if_false, Bool.true_and]
    unfold Op.eqFields
    simp only [show ("Num" : String) ≠ "_" by decide, if_true, ne_eq, not_false_eq_true, Sem.run_bind, pa #[.int .i64 x, .int .i64 y] 1 (.int .i64 y) rfl, pa #[.int .i64 a, .int .i64 b] 1 (.int .i64 b) rfl, Result.andThen_ok, run_equalIn_int w d 2 .i64 .i64 _ _ Tryd.underlying2]
    by_cases h2 : y = b
    · have e : (y == b) = true := by simp [h2]
      simp [e, Op.eqFields]
    · have e : (y == b) = false := by simp [h2]
      simp [e]
  · have e : (x == a) = false := by simp [h]
    simp [e]
theorem neq_term (x y : Int) (w : World) : (binOp .neq 63 (.agg #[.int .i64 x, .int .i64 y]) (.agg #[.int .i64 x, .int .i64 y])).run Tryd.prog w = .ok (.bool false) w := by
  rw [run_neq_struct, eq_term 9998]
  simp
def SmRel (w : World) (n : Nat) (iv : Value) (wr : World) : Prop := ∃ i : Nat, i ≤ n ∧ iv = .int .i64 (i : Int) ∧ Below w.heap.size w wr
set_option maxRecDepth 100000 in
set_option maxHeartbeats 2000000 in
theorem Same_any (v1 v2 : Value) (l : List (Nat × Int)) (w : World) (h1 : TmC w w.heap.size v1 l) (h2 : TmC w w.heap.size v2 l) (hl : l.length ≤ 1000000) :
    Calls Tryd.prog 25 #[v1, v2] w fun e w' => e = .returned (.bool true) ∧ Below w.heap.size w w' := by
  obtain ⟨A, cap, rfl, hcap, -⟩ := id h1
  obtain ⟨A2, cap2, rfl, hcap2, -⟩ := id h2
  have H1 := Lib.hid h1
  have H2 := Lib.hid h2
  clear h1 h2
  go_enter Tryd.func25, Tryd.ntmps25
  go_wp2
  go_loopw [5] (fun iv wr => SmRel w l.length iv wr) (fun iv _ => l.length - (intOf iv).toNat)
  case atStart => exact ⟨0, Nat.zero_le _, rfl, Below.refl _ _⟩
  case round =>
    obtain ⟨i, hi, rfl, hb⟩ := hrel
    have HB := Lib.hid hb
    clear hb
    by_cases hil : i < l.length
    · obtain ⟨x, hx⟩ : ∃ x, l[i]? = some x := ⟨l[i], List.getElem?_eq_getElem hil⟩
      obtain ⟨B1, k1, e, -, hh1⟩ := H1.out.keep HB.out
      cases e
      obtain ⟨g1, o1, rfl, hg1, cc1⟩ := hh1 (by intro e; rw [e] at hil; simp at hil)
      obtain ⟨B2, k2, e, -, hh2⟩ := H2.out.keep HB.out
      cases e
      obtain ⟨g2, o2, rfl, hg2, cc2⟩ := hh2 (by intro e; rw [e] at hil; simp at hil)
      obtain ⟨c0, c1⟩ := cc1 i x hx
      obtain ⟨d0, d1⟩ := cc2 i x hx
      have hilI : (i : Int) < (l.length : Int) := by omega
      clear hx hh1 hh2 cc1 cc2
      obtain ⟨n, a⟩ := x
      simp only at c0 c1 d0 d1
      have nq1 := fun W => neq_term (n : Int) a W
      go_wp2
      go_quiet (fail)
      go_wp2
      exact ⟨⟨i + 1, by omega, by go_num, HB.out.trans ((Drawn.below ⟨nq, rfl⟩ : Below wr.heap.size wr (wr.drewN nq)).mono HB.out.size)⟩, by simp [intOf]; omega⟩
    · have hilI : ¬ (i : Int) < (l.length : Int) := by omega
      go_wp2
      go_ret
      exact ⟨rfl, HB.out⟩
end Go.Proofs.YtokkcmadgcdpiaaDoor
