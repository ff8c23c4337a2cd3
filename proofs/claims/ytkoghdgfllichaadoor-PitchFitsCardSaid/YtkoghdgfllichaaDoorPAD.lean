import Derived.Test.YtkoghdgfllichaaDoorPAC
namespace Go.Proofs.YtkoghdgfllichaaDoor.Pc
open Go.RowKit Tp

/-! Check, isTemp, isNote; Drift, Speed. -/
def tOk (t : Int) : Bool := decide (-20000 ≤ t) && decide (t ≤ 50000)
theorem tOk_iff {t : Int} : tOk t = true ↔ -20000 ≤ t ∧ t ≤ 50000 := by unfold tOk; simp
def noteB (n : Int) : Bool := decide (0 ≤ n) && decide (n ≤ 139)
theorem noteB_iff {t : Int} : noteB t = true ↔ 0 ≤ t ∧ t ≤ 139 := by unfold noteB; simp
def stdB (a t0 t : Int) : Bool := decide (100000 ≤ a) && decide (a ≤ 1000000) && tOk t0 && tOk t
theorem stdB_iff {a t0 t : Int} : stdB a t0 t = true ↔ (100000 ≤ a ∧ a ≤ 1000000) ∧ (-20000 ≤ t0 ∧ t0 ≤ 50000) ∧ (-20000 ≤ t ∧ t ≤ 50000) := by
  unfold stdB
  simp only [Bool.and_eq_true, tOk_iff, decide_eq_true_eq, and_assoc]
def stdE (a t0 t : Int) : Int := if stdB a t0 t = true then 0 else 2
theorem isTemp_any (n : Int) (w : World) : Calls Tryd.prog 65 #[.int .i64 n] w fun e w' => e = .returned (.bool (tOk n)) ∧ w = w' := by
  have hc : tOk n = (decide (-20000 ≤ n) && decide (n ≤ 50000)) := rfl
  have HC := Lib.hid hc
  clear hc
  generalize tOk n = c at *
  by_cases h1 : -20000 ≤ n
  · by_cases h2 : n ≤ 50000
    · obtain rfl : c = true := by rw [HC.out]; simp [h1, h2]
      go_enter Tryd.func65, Tryd.ntmps65
      go_wp2
      go_ret
      exact ⟨rfl, rfl⟩
    · obtain rfl : c = false := by rw [HC.out]; simp [h2]
      go_enter Tryd.func65, Tryd.ntmps65
      go_wp2
      go_ret
      exact ⟨rfl, rfl⟩
  · obtain rfl : c = false := by rw [HC.out]; simp [h1]
    go_enter Tryd.func65, Tryd.ntmps65
    go_wp2
    go_ret
    exact ⟨rfl, rfl⟩
theorem rTemp_any (n : Int) (w : World) : Calls Tryd.prog 99 #[.int .i64 n] w fun e w' => e = .returned (.bool (tOk n)) ∧ w = w' := by
  have hc : tOk n = (decide (-20000 ≤ n) && decide (n ≤ 50000)) := rfl
  have HC := Lib.hid hc
  clear hc
  generalize tOk n = c at *
  by_cases h1 : -20000 ≤ n
  · by_cases h2 : n ≤ 50000
    · obtain rfl : c = true := by rw [HC.out]; simp [h1, h2]
      go_enter Tryd.func99, Tryd.ntmps99
      go_wp2
      go_ret
      exact ⟨rfl, rfl⟩
    · obtain rfl : c = false := by rw [HC.out]; simp [h2]
      go_enter Tryd.func99, Tryd.ntmps99
      go_wp2
      go_ret
      exact ⟨rfl, rfl⟩
  · obtain rfl : c = false := by rw [HC.out]; simp [h1]
    go_enter Tryd.func99, Tryd.ntmps99
    go_wp2
    go_ret
    exact ⟨rfl, rfl⟩
theorem isNote_any (n : Int) (w : World) : Calls Tryd.prog 101 #[.int .i64 n] w fun e w' => e = .returned (.bool (noteB n)) ∧ w = w' := by
  have hc : noteB n = (decide (0 ≤ n) && decide (n ≤ 139)) := rfl
  have HC := Lib.hid hc
  clear hc
  generalize noteB n = c at *
  by_cases h1 : 0 ≤ n
  · by_cases h2 : n ≤ 139
    · obtain rfl : c = true := by rw [HC.out]; simp [h1, h2]
      go_enter Tryd.func101, Tryd.ntmps101
      go_wp2
      go_ret
      exact ⟨rfl, rfl⟩
    · obtain rfl : c = false := by rw [HC.out]; simp [h2]
      go_enter Tryd.func101, Tryd.ntmps101
      go_wp2
      go_ret
      exact ⟨rfl, rfl⟩
  · obtain rfl : c = false := by rw [HC.out]; simp [h1]
    go_enter Tryd.func101, Tryd.ntmps101
    go_wp2
    go_ret
    exact ⟨rfl, rfl⟩
theorem pCheck_any (a t0 t : Int) (w : World) : Calls Tryd.prog 62 #[.agg #[.int .i64 a, .int .i64 t0, .int .i64 t]] w fun e w' => e = .returned (.int .i64 (stdE a t0 t)) ∧ Below w.heap.size w w' := by
  have hE : stdE a t0 t = if stdB a t0 t = true then 0 else 2 := rfl
  have hb0 := belB w (.cells #[.int .i64 a, .int .i64 t0, .int .i64 t] 50)
  have i1 := fun W => isTemp_any t0 W
  have i2 := fun W => isTemp_any t W
  have hS : stdB a t0 t = (decide (100000 ≤ a) && decide (a ≤ 1000000) && tOk t0 && tOk t) := rfl
  have HS := Lib.hid hS
  have HE := Lib.hid hE
  have HB := Lib.hid hb0
  have I1 := Lib.hid i1
  have I2 := Lib.hid i2
  clear hE hb0 hS i1 i2
  generalize stdE a t0 t = E at *
  generalize stdB a t0 t = B at *
  generalize tOk t0 = p0 at *
  generalize tOk t = p1 at *
  by_cases h1 : a < 100000
  · have hB : B = false := by rw [HS.out]; simp; omega
    go_enter Tryd.func62, Tryd.ntmps62
    go_wp2
    go_ret
    refine ⟨?_, HB.out⟩
    rw [HE.out, hB]; rfl
  · by_cases h2 : 1000000 < a
    · have hB : B = false := by rw [HS.out]; simp; omega
      go_enter Tryd.func62, Tryd.ntmps62
      go_wp2
      go_ret
      refine ⟨?_, HB.out⟩
      rw [HE.out, hB]; rfl
    · cases p0
      case' false =>
        have hB : B = false := by rw [HS.out]; simp
        go_enter Tryd.func62, Tryd.ntmps62
        go_wp2_with fail
        refine (I1.out _).mono ?_
        rintro e w1 ⟨he, hw⟩
        subst he
        subst hw
        go_wp2
        go_ret
        refine ⟨?_, HB.out⟩
        rw [HE.out, hB]; rfl
      case' true =>
        go_enter Tryd.func62, Tryd.ntmps62
        go_wp2_with fail
        refine (I1.out _).mono ?_
        rintro e w1 ⟨he, hw⟩
        subst he
        subst hw
        go_wp2_with fail
        refine (I2.out _).mono ?_
        rintro e w1 ⟨he, hw⟩
        subst he
        subst hw
        cases p1
        case' false =>
          have hB : B = false := by rw [HS.out]; simp
          go_wp2
          go_ret
          refine ⟨?_, HB.out⟩
          rw [HE.out, hB]; rfl
        case' true =>
          have hB : B = true := by rw [HS.out]; simp; omega
          go_wp2
          go_ret
          refine ⟨?_, HB.out⟩
          rw [HE.out, hB]; rfl
theorem prCheck_any (a t0 t : Int) (w : World) : Calls Tryd.prog 56 #[.agg #[.int .i64 a, .int .i64 t0, .int .i64 t]] w fun e w' => e = .returned (.int .i64 (stdE a t0 t)) ∧ Below w.heap.size w w' := by
  have hE : stdE a t0 t = if stdB a t0 t = true then 0 else 2 := rfl
  have hb0 := belB w (.cells #[.int .i64 a, .int .i64 t0, .int .i64 t] 50)
  have i1 := fun W => rTemp_any t0 W
  have i2 := fun W => rTemp_any t W
  have hS : stdB a t0 t = (decide (100000 ≤ a) && decide (a ≤ 1000000) && tOk t0 && tOk t) := rfl
  have HS := Lib.hid hS
  have HE := Lib.hid hE
  have HB := Lib.hid hb0
  have I1 := Lib.hid i1
  have I2 := Lib.hid i2
  clear hE hb0 hS i1 i2
  generalize stdE a t0 t = E at *
  generalize stdB a t0 t = B at *
  generalize tOk t0 = p0 at *
  generalize tOk t = p1 at *
  by_cases h1 : a < 100000
  · have hB : B = false := by rw [HS.out]; simp; omega
    go_enter Tryd.func56, Tryd.ntmps56
    go_wp2
    go_ret
    refine ⟨?_, HB.out⟩
    rw [HE.out, hB]; rfl
  · by_cases h2 : 1000000 < a
    · have hB : B = false := by rw [HS.out]; simp; omega
      go_enter Tryd.func56, Tryd.ntmps56
      go_wp2
      go_ret
      refine ⟨?_, HB.out⟩
      rw [HE.out, hB]; rfl
    · cases p0
      case' false =>
        have hB : B = false := by rw [HS.out]; simp
        go_enter Tryd.func56, Tryd.ntmps56
        go_wp2_with fail
        refine (I1.out _).mono ?_
        rintro e w1 ⟨he, hw⟩
        subst he
        subst hw
        go_wp2
        go_ret
        refine ⟨?_, HB.out⟩
        rw [HE.out, hB]; rfl
      case' true =>
        go_enter Tryd.func56, Tryd.ntmps56
        go_wp2_with fail
        refine (I1.out _).mono ?_
        rintro e w1 ⟨he, hw⟩
        subst he
        subst hw
        go_wp2_with fail
        refine (I2.out _).mono ?_
        rintro e w1 ⟨he, hw⟩
        subst he
        subst hw
        cases p1
        case' false =>
          have hB : B = false := by rw [HS.out]; simp
          go_wp2
          go_ret
          refine ⟨?_, HB.out⟩
          rw [HE.out, hB]; rfl
        case' true =>
          have hB : B = true := by rw [HS.out]; simp; omega
          go_wp2
          go_ret
          refine ⟨?_, HB.out⟩
          rw [HE.out, hB]; rfl
end Go.Proofs.YtkoghdgfllichaaDoor.Pc
namespace Go.Proofs.YtkoghdgfllichaaDoor.Pc
open Go.RowKit Tp

/-! Drift, Speed. -/
def fastL (a b : Int) : List (Nat × Int) := [((273150 + b).toNat, 1), ((273150 + a).toNat, -1)]
/-- What millicents returns. -/
def CtP (l : List (Nat × Int)) (d m : Int) : Prop := ((CtF l d (-1000000000000) < 0 ∨ 0 ≤ CtF l d 1000000000001) ∧ m = 0) ∨ (-1000000000000 ≤ m ∧ m ≤ 1000000000000 ∧ 0 ≤ CtF l d m ∧ CtF l d (m + 1) < 0)
def DriftP (w : World) (a t0 t : Int) (e : Ending) (w' : World) : Prop :=
  ((stdE a t0 t ≠ 0 ∧ e = .returned (.tuple #[.int .i64 0, .int .i64 (stdE a t0 t)])) ∨ (stdE a t0 t = 0 ∧ ∃ m, CtP (fastL t0 t) 2 m ∧ e = .returned (.tuple #[.int .i64 m, .int .i64 0]))) ∧ Below w.heap.size w w'
theorem fastL_ok {a b : Int} (ha : -20000 ≤ a) (ha2 : a ≤ 50000) (hb : -20000 ≤ b) (hb2 : b ≤ 50000) : ∀ x ∈ fastL a b, 1 ≤ x.1 ∧ x.1 ≤ 1000000000000 ∧ x.2.natAbs ≤ 200000 := fun x hx => by
  simp only [fastL, List.mem_cons, List.not_mem_nil, or_false] at hx
  rcases hx with rfl | rfl
  · simp only; omega
  · simp only; omega
set_option maxRecDepth 100000 in
set_option maxHeartbeats 2000000 in
theorem Drift_any (a t0 t : Int) (w : World) : Calls Tryd.prog 28 #[.agg #[.int .i64 a, .int .i64 t0, .int .i64 t]] w (DriftP w a t0 t) := by
  have hP : ∀ e w', DriftP w a t0 t e w' = (((stdE a t0 t ≠ 0 ∧ e = .returned (.tuple #[.int .i64 0, .int .i64 (stdE a t0 t)])) ∨ (stdE a t0 t = 0 ∧ ∃ m, CtP (fastL t0 t) 2 m ∧ e = .returned (.tuple #[.int .i64 m, .int .i64 0]))) ∧ Below w.heap.size w w') := fun _ _ => rfl
  have hck := fun W => pCheck_any a t0 t W
  have hst : stdE a t0 t = 0 → stdB a t0 t = true := fun h => by
    unfold stdE at h
    split at h
    · assumption
    · cases h
  have HCK := Lib.hid hck
  have HST := Lib.hid hst
  have HP := Lib.hid hP
  have hb0 := belB w (.cells #[.int .i64 a, .int .i64 t0, .int .i64 t] 50)
  have hr0 := RowV.of_alloc w 50 [.int .i64 a, .int .i64 t0, .int .i64 t]
  have HB := Lib.hid hb0
  have HR := Lib.hid hr0
  clear hck hst hP hb0 hr0
  generalize DriftP w a t0 t = Post at *
  generalize stdE a t0 t = E at *
  go_enter Tryd.func28, Tryd.ntmps28
  go_wp2_with fail
  refine (HCK.out _).mono ?_
  rintro e w1 ⟨he, hb1⟩
  subst he
  have hr1 := HR.out.up hb1
  have hbw := HB.out.trans (hb1.mono HB.out.size)
  have c1 : w1.cell? ⟨w.heap.size, 1, none⟩ = some (.int .i64 t0) := hr1.cell (i := 1) rfl
  have c2 : w1.cell? ⟨w.heap.size, 2, none⟩ = some (.int .i64 t) := hr1.cell (i := 2) rfl
  have BW := Lib.hid hbw
  clear hb1 hr1 hbw HB HR HCK
  by_cases hE0 : E = 0
  · subst hE0
    obtain ⟨-, hT0, hT1⟩ := stdB_iff.1 (HST.out rfl)
    have hfa := fun W => faster_any t0 t W hT0.1 hT0.2 hT1.1 hT1.2
    have hok := fastL_ok hT0.1 hT0.2 hT1.1 hT1.2
    have hml := fun v W (h : TmC W W.heap.size v (fastL t0 t)) => millicents_any v (fastL t0 t) 2 W h (by simp [fastL]) hok (by omega) (by omega)
    have HFA := Lib.hid hfa
    have HML := Lib.hid hml
    clear hfa hml hok HST
    go_wp2_with fail
    refine (HFA.out _).mono ?_
    rintro e w2 ⟨⟨V, he, v, rfl, hrow⟩, hb2⟩
    subst he
    obtain ⟨bA, capA, rfl, hcA, hmA, hfA⟩ := hrow.form
    have htm := (hrow.up (belB w2 (.cells #[.slice bA (fastL t0 t).length capA, .int .i64 2] 102))).tmc
    have HTM := Lib.hid htm
    have B2 := Lib.hid (BW.out.trans (hb2.mono BW.out.size))
    clear hrow htm hb2 hfA HFA BW
    go_wp2_with fail
    refine (HML.out _ _ HTM.out).mono ?_
    rintro e w3 ⟨⟨m, he, hm⟩, hb3⟩
    subst he
    have B3 := Lib.hid ((B2.out.alloc B2.out.size _).trans (hb3.mono (B2.out.alloc B2.out.size (.cells #[.slice bA (fastL t0 t).length capA, .int .i64 2] 102)).size))
    have HM := Lib.hid hm
    clear hm hb3
    go_wp2
    rw [HP.out]
    exact ⟨.inr ⟨trivial, m, HM.out, rfl⟩, B3.out⟩
  · have hEb : (E != 0) = true := by simp [hE0]
    have HE0 := Lib.hid hE0
    clear hE0
    go_wp2
    rw [HP.out]
    exact ⟨.inl ⟨HE0.out, rfl⟩, BW.out⟩
end Go.Proofs.YtkoghdgfllichaaDoor.Pc
namespace Go.Proofs.YtkoghdgfllichaaDoor.Pc
open Go.RowKit Tp

/-! Speed. -/
theorem speed_no {t : Int} (h1 : -20000 ≤ t) (h2 : t ≤ 50000) : PwF (fastL 0 t) 2 331300000 1000000000001 < 0 := by
  obtain ⟨n, hn⟩ : ∃ n : Nat, 273150 + t = (n : Int) := ⟨(273150 + t).toNat, by omega⟩
  have hn2 : n ≤ 323150 := by omega
  unfold PwF fastL
  rw [if_neg (by decide), hn]
  simp only [Int.toNat_natCast, List.cons_append, List.nil_append]
  rw [sgn_lt]
  show n ^ 1 * (273150 ^ 0 * (331300000 ^ 2 * (1000000000001 ^ 0 * 1))) < n ^ 0 * (273150 ^ 1 * (331300000 ^ 0 * (1000000000001 ^ 2 * 1)))
  simp only [Nat.pow_one, Nat.pow_zero, Nat.one_mul, Nat.mul_one]
  omega
def SpeedP (w : World) (t : Int) (e : Ending) (w' : World) : Prop :=
  ((tOk t = false ∧ e = .returned (.tuple #[.agg #[.int .i64 0, .int .i64 0], .int .i64 2])) ∨ (tOk t = true ∧ ∃ m n, SpanIs (PwF (fastL 0 t) 2 331300000) m n ∧ e = .returned (.tuple #[.agg #[.int .i64 m, .int .i64 n], .int .i64 0]))) ∧ Below w.heap.size w w'
set_option maxRecDepth 100000 in
set_option maxHeartbeats 2000000 in
theorem Speed_any (t : Int) (w : World) : Calls Tryd.prog 29 #[.int .i64 t] w (SpeedP w t) := by
  have HR := Lib.hid (RowV.of_alloc w 55 [.int .i64 0, .int .i64 0])
  have HB := Lib.hid (belB w (.cells #[.int .i64 0, .int .i64 0] 55))
  cases ht : tOk t
  case' false =>
    have hit := fun W => isTemp_any t W
    rw [ht] at hit
    have HIT := Lib.hid hit
    have hP : ∀ w' : World, Below w.heap.size w w' → SpeedP w t (.returned (.tuple #[.agg #[.int .i64 0, .int .i64 0], .int .i64 2])) w' := fun w' h => ⟨.inl ⟨ht, rfl⟩, h⟩
    have HP := Lib.hid hP
    clear hit hP ht
    generalize SpeedP w t = Post at *
    have c0 := RowV.c0 HR.out
    have c1 := RowV.c1 HR.out
    have z0 := RowV.z (i := 0) HR.out
    have z1 := RowV.z (i := 1) HR.out
    go_enter Tryd.func29, Tryd.ntmps29
    go_wp2_with fail
    refine (HIT.out _).mono ?_
    rintro e w1 ⟨he, hw⟩
    subst he
    subst hw
    go_wp2
    exact bodyPost_ret (v := .tuple #[.agg #[.int .i64 0, .int .i64 0], .int .i64 2]) (Tp.results_cell_tmp (a := 2) (b := 3) rfl rfl (load_iv c0 c1)) rfl (HP.out _ HB.out)
  case' true =>
    obtain ⟨h1, h2⟩ := tOk_iff.1 ht
    have hit := fun W => isTemp_any t W
    rw [ht] at hit
    have HIT := Lib.hid hit
    have hfa := fun W => faster_any 0 t W (by omega) (by omega) h1 h2
    have hvl : validL (fastL 0 t) := ⟨by simp [fastL], fun x hx => by have := fastL_ok (show (-20000 : Int) ≤ 0 by omega) (by omega) h1 h2 x hx; omega⟩
    have hsp := fun A capv W (h : TmC W W.heap.size (.slice A (fastL 0 t).length capv) (fastL 0 t)) hA => span_any A capv (fastL 0 t) 2 331300000 W h hA hvl (by omega) (by omega) (by omega) (by omega) (speed_no h1 h2)
    have hP : ∀ (w' : World) m n, Below w.heap.size w w' → SpanIs (PwF (fastL 0 t) 2 331300000) m n → SpeedP w t (.returned (.tuple #[.agg #[.int .i64 m, .int .i64 n], .int .i64 0])) w' := fun w' m n h hs => ⟨.inr ⟨ht, m, n, hs, rfl⟩, h⟩
    have HFA := Lib.hid hfa
    have HSP := Lib.hid hsp
    have HP := Lib.hid hP
    clear hit hP ht hfa hsp hvl h1 h2
    generalize SpeedP w t = Post at *
    go_enter Tryd.func29, Tryd.ntmps29
    go_wp2_with fail
    refine (HIT.out _).mono ?_
    rintro e w1 ⟨he, hw⟩
    subst he
    subst hw
    go_wp2_with fail
    refine (HFA.out _).mono ?_
    rintro e w2 ⟨⟨V, he, v, rfl, hrow⟩, hb2⟩
    subst he
    obtain ⟨bA, capA, rfl, hcA, hmA, hfA⟩ := hrow.form
    have hA0 : bA = none → capA = 0 := fun e => by
      rcases hfA with ⟨-, -, h⟩ | ⟨g2, h, -⟩
      · exact h
      · rw [e] at h; cases h
    have htm := (hrow.up (belB w2 (.cells #[.slice bA (fastL 0 t).length capA, .int .i64 2] 102))).tmc
    have HTM := Lib.hid htm
    have HR2 := Lib.hid ((HR.out.up hb2).alloc (.cells #[.slice bA (fastL 0 t).length capA, .int .i64 2] 102))
    have B2 := Lib.hid ((HB.out.trans (hb2.mono HB.out.size)).alloc (HB.out.trans (hb2.mono HB.out.size)).size (.cells #[.slice bA (fastL 0 t).length capA, .int .i64 2] 102))
    clear hrow htm hb2 hfA HFA HB HR
    go_wp2_with fail
    refine (HSP.out _ _ _ HTM.out hA0).mono ?_
    rintro e w3 ⟨⟨m, n, he, hm⟩, hb3⟩
    subst he
    have hr3 := HR2.out.up hb3
    have c0 := RowV.c0 hr3
    have c1 := RowV.c1 hr3
    have z0 := RowV.z (i := 0) hr3
    have z1 := RowV.z (i := 1) hr3
    have B3 := Lib.hid (B2.out.trans (hb3.mono B2.out.size))
    have HM := Lib.hid hm
    clear hm hb3 hr3
    go_wp2
    refine bodyPost_ret (v := .tuple #[.agg #[.int .i64 m, .int .i64 n], .int .i64 0]) (Tp.results_cell_tmp (a := 2) (b := 3) rfl rfl (load_iv ?_ ?_)) rfl (HP.out _ m n ((B3.out.setCell (by show w.heap.size ≤ w.heap.size; omega) _).setCell (by show w.heap.size ≤ w.heap.size; omega) _) HM.out)
    · rw [World.cell?_setCell_other _ _ _ _ (by simp), World.cell?_setCell_same _ _ _ c0]
    · exact World.cell?_setCell_same _ _ _ ((World.cell?_setCell_other _ _ _ _ (by simp)).trans c1)
end Go.Proofs.YtkoghdgfllichaaDoor.Pc
