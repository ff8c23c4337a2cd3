import Derived.Test.YtmbcejldifobnaaDoorC10
import Derived.Test.YtmbcejldifobnaaDoorC09
import Derived.Deep.Strs
import Derived.Test.YtmbcejldifobnaaDoorCards
import Derived.OpenShut
import Derived.Lib.LaidTab
import Derived.Lib.SmallJoins
import Derived.Carry
import Derived.ProofKit
import Derived.Deep.DeepHandedRow
import Derived.Deep.SlicePairs
import Derived.Deep.Slices
import Derived.Deep.Fields
import Derived.ChangeSame
namespace Go.Proofs.YtmbcejldifobnaaDoor.Pc
open Go.RowKit Tp
def tOk (t : Int) : Bool := decide (-20000 ≤ t) && decide (t ≤ 50000)
theorem tOk_iff {t : Int} : tOk t = true ↔ -20000 ≤ t ∧ t ≤ 50000 := by unfold tOk; simp
def noteB (n : Int) : Bool := decide (0 ≤ n) && decide (n ≤ 139)
theorem noteB_iff {t : Int} : noteB t = true ↔ 0 ≤ t ∧ t ≤ 139 := by unfold noteB; simp
def stdB (a t0 t : Int) : Bool := decide (100000 ≤ a) && decide (a ≤ 1000000) && tOk t0 && tOk t
theorem stdB_iff {a t0 t : Int} : stdB a t0 t = true ↔ (100000 ≤ a ∧ a ≤ 1000000) ∧ (-20000 ≤ t0 ∧ t0 ≤ 50000) ∧ (-20000 ≤ t ∧ t ≤ 50000) := by
  unfold stdB
  simp only [Bool.and_eq_true, tOk_iff, decide_eq_true_eq, and_assoc]
def stdE (a t0 t : Int) : Int := if stdB a t0 t = true then 0 else 2
theorem isTemp_any (n : Int) (w : World) : Calls Tryd.prog 72 #[.int .i64 n] w fun e w' => e = .returned (.bool (tOk n)) ∧ w = w' := by
  have hc : tOk n = (decide (-20000 ≤ n) && decide (n ≤ 50000)) := rfl
  have HC := Lib.hid hc
  clear hc
  generalize tOk n = c at *
  by_cases h1 : -20000 ≤ n
  · by_cases h2 : n ≤ 50000
    · obtain rfl : c = true := by rw [HC.out]; simp [h1, h2]
      go_enter Tryd.func72, Tryd.ntmps72
      go_wp2
      go_ret
      exact ⟨rfl, rfl⟩
    · obtain rfl : c = false := by rw [HC.out]; simp [h2]
      go_enter Tryd.func72, Tryd.ntmps72
      go_wp2
      go_ret
      exact ⟨rfl, rfl⟩
  · obtain rfl : c = false := by rw [HC.out]; simp [h1]
    go_enter Tryd.func72, Tryd.ntmps72
    go_wp2
    go_ret
    exact ⟨rfl, rfl⟩
theorem rTemp_any (n : Int) (w : World) : Calls Tryd.prog 118 #[.int .i64 n] w fun e w' => e = .returned (.bool (tOk n)) ∧ w = w' := by
  have hc : tOk n = (decide (-20000 ≤ n) && decide (n ≤ 50000)) := rfl
  have HC := Lib.hid hc
  clear hc
  generalize tOk n = c at *
  by_cases h1 : -20000 ≤ n
  · by_cases h2 : n ≤ 50000
    · obtain rfl : c = true := by rw [HC.out]; simp [h1, h2]
      go_enter Tryd.func118, Tryd.ntmps118
      go_wp2
      go_ret
      exact ⟨rfl, rfl⟩
    · obtain rfl : c = false := by rw [HC.out]; simp [h2]
      go_enter Tryd.func118, Tryd.ntmps118
      go_wp2
      go_ret
      exact ⟨rfl, rfl⟩
  · obtain rfl : c = false := by rw [HC.out]; simp [h1]
    go_enter Tryd.func118, Tryd.ntmps118
    go_wp2
    go_ret
    exact ⟨rfl, rfl⟩
theorem isNote_any (n : Int) (w : World) : Calls Tryd.prog 120 #[.int .i64 n] w fun e w' => e = .returned (.bool (noteB n)) ∧ w = w' := by
  have hc : noteB n = (decide (0 ≤ n) && decide (n ≤ 139)) := rfl
  have HC := Lib.hid hc
  clear hc
  generalize noteB n = c at *
  by_cases h1 : 0 ≤ n
  · by_cases h2 : n ≤ 139
    · obtain rfl : c = true := by rw [HC.out]; simp [h1, h2]
      go_enter Tryd.func120, Tryd.ntmps120
      go_wp2
      go_ret
      exact ⟨rfl, rfl⟩
    · obtain rfl : c = false := by rw [HC.out]; simp [h2]
      go_enter Tryd.func120, Tryd.ntmps120
      go_wp2
      go_ret
      exact ⟨rfl, rfl⟩
  · obtain rfl : c = false := by rw [HC.out]; simp [h1]
    go_enter Tryd.func120, Tryd.ntmps120
    go_wp2
    go_ret
    exact ⟨rfl, rfl⟩
theorem pCheck_any (a t0 t : Int) (w : World) : Calls Tryd.prog 119 #[.agg #[.int .i64 a, .int .i64 t0, .int .i64 t]] w fun e w' => e = .returned (.int .i64 (stdE a t0 t)) ∧ Below w.heap.size w w' := by
  have hE : stdE a t0 t = if stdB a t0 t = true then 0 else 2 := rfl
  have hb0 := belB w (.cells #[.int .i64 a, .int .i64 t0, .int .i64 t] 50)
  have i1 := fun W => isTemp_any t0 W
  have i2 := fun W => isTemp_any t W
  have hS : stdB a t0 t = (decide (100000 ≤ a) && decide (a ≤ 1000000) && tOk t0 && tOk t) := rfl
  have HS := Lib.hid hS
  have HE := Lib.hid hE
  have HB := Lib.hid hb0
  have I1 := Lib.hid i1
  have I2 := Lib.hid i2
  clear hE hb0 hS i1 i2
  generalize stdE a t0 t = E at *
  generalize stdB a t0 t = B at *
  generalize tOk t0 = p0 at *
  generalize tOk t = p1 at *
  by_cases h1 : a < 100000
  · have hB : B = false := by rw [HS.out]; simp; omega
    go_enter Tryd.func119, Tryd.ntmps119
    go_wp2
    go_ret
    refine ⟨?_, HB.out⟩
    rw [HE.out, hB]; rfl
  · by_cases h2 : 1000000 < a
    · have hB : B = false := by rw [HS.out]; simp; omega
      go_enter Tryd.func119, Tryd.ntmps119
      go_wp2
      go_ret
      refine ⟨?_, HB.out⟩
      rw [HE.out, hB]; rfl
    · cases p0
      case' false =>
        have hB : B = false := by rw [HS.out]; simp
        go_enter Tryd.func119, Tryd.ntmps119
        go_wp2_with fail
        refine (I1.out _).mono ?_
        rintro e w1 ⟨he, hw⟩
        subst he
        subst hw
        go_wp2
        go_ret
        refine ⟨?_, HB.out⟩
        rw [HE.out, hB]; rfl
      case' true =>
        go_enter Tryd.func119, Tryd.ntmps119
        go_wp2_with fail
        refine (I1.out _).mono ?_
        rintro e w1 ⟨he, hw⟩
        subst he
        subst hw
        go_wp2_with fail
        refine (I2.out _).mono ?_
        rintro e w1 ⟨he, hw⟩
        subst he
        subst hw
        cases p1
        case' false =>
          have hB : B = false := by rw [HS.out]; simp
          go_wp2
          go_ret
          refine ⟨?_, HB.out⟩
          rw [HE.out, hB]; rfl
        case' true =>
          have hB : B = true := by rw [HS.out]; simp; omega
          go_wp2
          go_ret
          refine ⟨?_, HB.out⟩
          rw [HE.out, hB]; rfl
theorem prCheck_any (a t0 t : Int) (w : World) : Calls Tryd.prog 64 #[.agg #[.int .i64 a, .int .i64 t0, .int .i64 t]] w fun e w' => e = .returned (.int .i64 (stdE a t0 t)) ∧ Below w.heap.size w w' := by
  have hE : stdE a t0 t = if stdB a t0 t = true then 0 else 2 := rfl
  have hb0 := belB w (.cells #[.int .i64 a, .int .i64 t0, .int .i64 t] 50)
  have i1 := fun W => rTemp_any t0 W
  have i2 := fun W => rTemp_any t W
  have hS : stdB a t0 t = (decide (100000 ≤ a) && decide (a ≤ 1000000) && tOk t0 && tOk t) := rfl
  have HS := Lib.hid hS
  have HE := Lib.hid hE
  have HB := Lib.hid hb0
  have I1 := Lib.hid i1
  have I2 := Lib.hid i2
  clear hE hb0 hS i1 i2
  generalize stdE a t0 t = E at *
  generalize stdB a t0 t = B at *
  generalize tOk t0 = p0 at *
  generalize tOk t = p1 at *
  by_cases h1 : a < 100000
  · have hB : B = false := by rw [HS.out]; simp; omega
    go_enter Tryd.func64, Tryd.ntmps64
    go_wp2
    go_ret
    refine ⟨?_, HB.out⟩
    rw [HE.out, hB]; rfl
  · by_cases h2 : 1000000 < a
    · have hB : B = false := by rw [HS.out]; simp; omega
      go_enter Tryd.func64, Tryd.ntmps64
      go_wp2
      go_ret
      refine ⟨?_, HB.out⟩
      rw [HE.out, hB]; rfl
    · cases p0
      case' false =>
        have hB : B = false := by rw [HS.out]; simp
        go_enter Tryd.func64, Tryd.ntmps64
        go_wp2_with fail
        refine (I1.out _).mono ?_
        rintro e w1 ⟨he, hw⟩
        subst he
        subst hw
        go_wp2
        go_ret
        refine ⟨?_, HB.out⟩
        rw [HE.out, hB]; rfl
      case' true =>
        go_enter Tryd.func64, Tryd.ntmps64
        go_wp2_with fail
        refine (I1.out _).mono ?_
        rintro e w1 ⟨he, hw⟩
        subst he
        subst hw
        go_wp2_with fail
        refine (I2.out _).mono ?_
        rintro e w1 ⟨he, hw⟩
        subst he
        subst hw
        cases p1
        case' false =>
          have hB : B = false := by rw [HS.out]; simp
          go_wp2
          go_ret
          refine ⟨?_, HB.out⟩
          rw [HE.out, hB]; rfl
        case' true =>
          have hB : B = true := by rw [HS.out]; simp; omega
          go_wp2
          go_ret
          refine ⟨?_, HB.out⟩
          rw [HE.out, hB]; rfl
end Go.Proofs.YtmbcejldifobnaaDoor.Pc

namespace Go.Proofs.YtmbcejldifobnaaDoor.Pc
open Go.RowKit Tp
def fastL (a b : Int) : List (Nat × Int) := [((273150 + b).toNat, 1), ((273150 + a).toNat, -1)]
/-- What millicents returns. -/
def CtP (l : List (Nat × Int)) (d m : Int) : Prop := ((CtF l d (-1000000000000) < 0 ∨ 0 ≤ CtF l d 1000000000001) ∧ m = 0) ∨ (-1000000000000 ≤ m ∧ m ≤ 1000000000000 ∧ 0 ≤ CtF l d m ∧ CtF l d (m + 1) < 0)
def DriftP (w : World) (a t0 t : Int) (e : Ending) (w' : World) : Prop :=
  ((stdE a t0 t ≠ 0 ∧ e = .returned (.tuple #[.int .i64 0, .int .i64 (stdE a t0 t)])) ∨ (stdE a t0 t = 0 ∧ ∃ m, CtP (fastL t0 t) 2 m ∧ e = .returned (.tuple #[.int .i64 m, .int .i64 0]))) ∧ Below w.heap.size w w'
theorem fastL_ok {a b : Int} (ha : -20000 ≤ a) (ha2 : a ≤ 50000) (hb : -20000 ≤ b) (hb2 : b ≤ 50000) : ∀ x ∈ fastL a b, 1 ≤ x.1 ∧ x.1 ≤ 1000000000000 ∧ x.2.natAbs ≤ 200000 := fun x hx => by
  simp only [fastL, List.mem_cons, List.not_mem_nil, or_false] at hx
  rcases hx with rfl | rfl
  · simp only; omega
  · simp only; omega
set_option maxRecDepth 100000 in
set_option maxHeartbeats 2000000 in
theorem Drift_any (a t0 t : Int) (w : World) : Calls Tryd.prog 65 #[.agg #[.int .i64 a, .int .i64 t0, .int .i64 t]] w (DriftP w a t0 t) := by
  have hP : ∀ e w', DriftP w a t0 t e w' = (((stdE a t0 t ≠ 0 ∧ e = .returned (.tuple #[.int .i64 0, .int .i64 (stdE a t0 t)])) ∨ (stdE a t0 t = 0 ∧ ∃ m, CtP (fastL t0 t) 2 m ∧ e = .returned (.tuple #[.int .i64 m, .int .i64 0]))) ∧ Below w.heap.size w w') := fun _ _ => rfl
  have hck := fun W => pCheck_any a t0 t W
  have hst : stdE a t0 t = 0 → stdB a t0 t = true := fun h => by
    unfold stdE at h
    split at h
    · assumption
    · cases h
  have HCK := Lib.hid hck
  have HST := Lib.hid hst
  have HP := Lib.hid hP
  have hb0 := belB w (.cells #[.int .i64 a, .int .i64 t0, .int .i64 t] 50)
  have hr0 := RowV.of_alloc w 50 [.int .i64 a, .int .i64 t0, .int .i64 t]
  have HB := Lib.hid hb0
  have HR := Lib.hid hr0
  clear hck hst hP hb0 hr0
  generalize DriftP w a t0 t = Post at *
  generalize stdE a t0 t = E at *
  go_enter Tryd.func65, Tryd.ntmps65
  go_wp2_with fail
  refine (HCK.out _).mono ?_
  rintro e w1 ⟨he, hb1⟩
  subst he
  have hr1 := HR.out.up hb1
  have hbw := HB.out.trans (hb1.mono HB.out.size)
  have c1 : w1.cell? ⟨w.heap.size, 1, none⟩ = some (.int .i64 t0) := hr1.cell (i := 1) rfl
  have c2 : w1.cell? ⟨w.heap.size, 2, none⟩ = some (.int .i64 t) := hr1.cell (i := 2) rfl
  have BW := Lib.hid hbw
  clear hb1 hr1 hbw HB HR HCK
  by_cases hE0 : E = 0
  · subst hE0
    obtain ⟨-, hT0, hT1⟩ := stdB_iff.1 (HST.out rfl)
    have hfa := fun W => faster_any t0 t W hT0.1 hT0.2 hT1.1 hT1.2
    have hok := fastL_ok hT0.1 hT0.2 hT1.1 hT1.2
    have hml := fun v W (h : TmC W W.heap.size v (fastL t0 t)) => millicents_any v (fastL t0 t) 2 W h (by simp [fastL]) hok (by omega) (by omega)
    have HFA := Lib.hid hfa
    have HML := Lib.hid hml
    clear hfa hml hok HST
    go_wp2_with fail
    refine (HFA.out _).mono ?_
    rintro e w2 ⟨⟨V, he, v, rfl, hrow⟩, hb2⟩
    subst he
    obtain ⟨bA, capA, rfl, hcA, hmA, hfA⟩ := hrow.form
    have htm := (hrow.up (belB w2 (.cells #[.slice bA (fastL t0 t).length capA, .int .i64 2] 113))).tmc
    have HTM := Lib.hid htm
    have B2 := Lib.hid (BW.out.trans (hb2.mono BW.out.size))
    clear hrow htm hb2 hfA HFA BW
    go_wp2_with fail
    refine (HML.out _ _ HTM.out).mono ?_
    rintro e w3 ⟨⟨m, he, hm⟩, hb3⟩
    subst he
    have B3 := Lib.hid ((B2.out.alloc B2.out.size _).trans (hb3.mono (B2.out.alloc B2.out.size (.cells #[.slice bA (fastL t0 t).length capA, .int .i64 2] 113)).size))
    have HM := Lib.hid hm
    clear hm hb3
    go_wp2
    rw [HP.out]
    exact ⟨.inr ⟨trivial, m, HM.out, rfl⟩, B3.out⟩
  · have hEb : (E != 0) = true := by simp [hE0]
    have HE0 := Lib.hid hE0
    clear hE0
    go_wp2
    rw [HP.out]
    exact ⟨.inl ⟨HE0.out, rfl⟩, BW.out⟩
end Go.Proofs.YtmbcejldifobnaaDoor.Pc

namespace Go.Proofs.YtmbcejldifobnaaDoor.Pc
open Go.RowKit Tp
def NtP (w : World) (T : Tm) (D : Int) (wn : Nat) (e : Ending) (w' : World) : Prop := ∃ N g, NotesL D (fN T D) wn 12 N ∧ e = .returned (.tuple #[.slice (some ⟨g, 0, none⟩) 12 12, .int .i64 0]) ∧ RowV w' g 98 (fl7 N) ∧ w.heap.size ≤ g ∧ Below w.heap.size w w'
set_option maxRecDepth 100000 in
set_option maxHeartbeats 2000000 in
theorem Notes_ok (T : Tm) (D : Int) (wn : Nat) (w : World) (hp : PrL w) (hl : T.ps.length = 12) (hs : T.nm.size ≤ maxLen) (hk : chkT T = 0) (hv : Vd T D wn) : Calls Tryd.prog 19 #[.agg (tmV T).toArray] w (NtP w T D wn) := by
  have hP : ∀ e w', NtP w T D wn e w' = (∃ N g, NotesL D (fN T D) wn 12 N ∧ e = .returned (.tuple #[.slice (some ⟨g, 0, none⟩) 12 12, .int .i64 0]) ∧ RowV w' g 98 (fl7 N) ∧ w.heap.size ≤ g ∧ Below w.heap.size w w') := fun _ _ => rfl
  have hck := fun W => Check_any T W hl hs
  rw [hk] at hck
  have hno := fun W (h : PrL W) => notesOf_any T D wn W h hl hv
  have hz := zero65
  have HCK := Lib.hid hck
  have HNO := Lib.hid hno
  have HP := Lib.hid hP
  have HPR := Lib.hid hp
  have HR := Lib.hid (RowV.of_alloc w 38 (tmV T))
  have HB := Lib.hid (belB w (.cells (tmV T).toArray 38))
  have HI2 := Lib.hid (szT hl)
  clear hP hck hno hp hl hs hk hv
  generalize NtP w T D wn = Post at *
  go_enter Tryd.func19, Tryd.ntmps19
  go_wp2_with ((show wpList _ _ _ (⟨_, .load _ _, _, _, _, _⟩ :: _) _ _); refine wpList_load_mid rfl 38 _ rfl w.heap.size 0 rfl (tmV T) _ HR.out.all Tryd.underlying38 rfl HI2.out ?_)
  refine (HCK.out _).mono ?_
  rintro e w1 ⟨he, hb1⟩
  subst he
  have R1 := Lib.hid (HR.out.up hb1)
  have B1 := Lib.hid (HB.out.trans (hb1.mono HB.out.size))
  clear hb1 HR HB HCK
  go_wp2_with ((show wpList _ _ _ (⟨_, .load _ _, _, _, _, _⟩ :: _) _ _); refine wpList_load_mid rfl 38 _ rfl w.heap.size 0 rfl (tmV T) _ R1.out.all Tryd.underlying38 rfl HI2.out ?_)
  refine (HNO.out _ (HPR.out.below B1.out)).mono ?_
  rintro e w2 ⟨N, hN, he, hb2⟩
  subst he
  have B2 := Lib.hid (B1.out.trans (hb2.mono B1.out.size))
  have r0 := RowV.of_alloc w2 98 (fl7 zero12)
  have hlN := hN.1
  have hlen : (fl7 N).length = 84 := by rw [fl7_len, hlN]
  have hth : (w2.alloc (.cells (fl7 zero12).toArray 98)).there w2.heap.size 0 (fl7 N).toArray.size := r0.there (by rw [List.size_toArray, hlen]; decide)
  have r1 := r0.setCells (fl7 N) 0 _ _ (by rw [hlen]; decide)
  have e4 : (fl7 zero12).take 0 ++ fl7 N ++ (fl7 zero12).drop (0 + (fl7 N).length) = fl7 N := by
    rw [List.drop_eq_nil_of_le (by rw [hlen]; decide)]; simp
  rw [e4] at r1
  have bA := below_setCells (g := w2.heap.size) (fl7 N) 0 _ (belB w2 (.cells (fl7 zero12).toArray 98)) (Nat.le_refl _)
  have hsz : (Tryd.prog.info? 98).map (·.size) = some (fl7 N).length := by rw [hlen]; kernel_rfl
  have hone : (fl7 N).toArray.all (·.oneCell') = true := all_oneCell_toArray fun v hv => by
    obtain ⟨r, _, hr⟩ := List.mem_flatMap.1 hv
    simp only [cellsR, List.mem_cons, List.not_mem_nil, or_false] at hr
    rcases hr with h | h | h | h | h | h | h <;> subst h <;> rfl
  have HTH := Lib.hid hth
  have R4 := Lib.hid r1
  have BA := Lib.hid (B2.out.trans (bA.mono B2.out.size))
  have HSZ : Hid ((Tryd.prog.info? 98).map (·.size) = some (fl7 N).toArray.size) := Lib.hid (by rw [List.size_toArray]; exact hsz)
  have HON := Lib.hid hone
  have HN := Lib.hid hN
  have hgs := B2.out.size
  clear r0 r1 e4 bA hsz hone hth hN hb2 hlN hlen R1 B1 HNO
  go_wp2_with ((show wpList _ _ _ (⟨_, .store _ _ _, _, _, _, _⟩ :: _) _ _); refine wpList_store_mid rfl 98 _ _ rfl w2.heap.size 0 (fl7 N).toArray rfl rfl HTH.out HSZ.out HON.out ?_)
  rw [HP.out]
  exact ⟨N, w2.heap.size, HN.out, rfl, R4.out, hgs, BA.out⟩
end Go.Proofs.YtmbcejldifobnaaDoor.Pc

namespace Go.Proofs.YtmbcejldifobnaaDoor.Pc
open Go.RowKit Tp
theorem szTun (L : List Value) (h : L.length = 4) : (Tryd.prog.info? 109).map (·.size) = some L.length := by rw [h]; kernel_rfl
def TunV (a t0 t : Int) (g : Nat) : List Value := [.int .i64 a, .int .i64 t0, .int .i64 t, .slice (some ⟨g, 0, none⟩) 12 12]
def TuP (w : World) (a t0 t : Int) (T : Tm) (D : Int) (wn : Nat) (e : Ending) (w' : World) : Prop := ∃ N g, NotesL D (fN T D) wn 12 N ∧ e = .returned (.tuple #[.agg (TunV a t0 t g).toArray, .int .i64 0]) ∧ RowV w' g 98 (fl7 N) ∧ w.heap.size ≤ g ∧ Below w.heap.size w w'
set_option maxRecDepth 100000 in
set_option maxHeartbeats 2000000 in
theorem tune_ok (a t0 t : Int) (T : Tm) (D : Int) (wn : Nat) (w : World) (hp : PrL w) (hst : stdE a t0 t = 0) (hl : T.ps.length = 12) (hs : T.nm.size ≤ maxLen) (hk : chkT T = 0) (hv : Vd T D wn) : Calls Tryd.prog 68 #[.agg #[.int .i64 a, .int .i64 t0, .int .i64 t], .agg (tmV T).toArray] w (TuP w a t0 t T D wn) := by
  have hP : ∀ e w', TuP w a t0 t T D wn e w' = (∃ N g, NotesL D (fN T D) wn 12 N ∧ e = .returned (.tuple #[.agg (TunV a t0 t g).toArray, .int .i64 0]) ∧ RowV w' g 98 (fl7 N) ∧ w.heap.size ≤ g ∧ Below w.heap.size w w') := fun _ _ => rfl
  have hck := fun W => pCheck_any a t0 t W
  rw [hst] at hck
  have hno := fun W (h : PrL W) => Notes_ok T D wn W h hl hs hk hv
  obtain ⟨W, hW⟩ : ∃ W, W = ((w.alloc (.cells #[.int .i64 a, .int .i64 t0, .int .i64 t] 50)).alloc (.cells (tmV T).toArray 38)).alloc (.cells #[.int .i64 0, .int .i64 0, .int .i64 0, .slice none 0 0] 109) := ⟨_, rfl⟩
  have b0 : RowV W w.heap.size 50 [.int .i64 a, .int .i64 t0, .int .i64 t] := by rw [hW]; exact ((RowV.of_alloc w 50 [.int .i64 a, .int .i64 t0, .int .i64 t]).alloc _).alloc _
  have b1 : RowV W (w.heap.size + 1) 38 (tmV T) := by
    have h := (RowV.of_alloc (w.alloc (.cells #[.int .i64 a, .int .i64 t0, .int .i64 t] 50)) 38 (tmV T)).alloc (.cells #[.int .i64 0, .int .i64 0, .int .i64 0, .slice none 0 0] 109)
    rw [World.size_alloc] at h
    rw [hW]; exact h
  have b2 : RowV W (w.heap.size + 1 + 1) 109 [.int .i64 0, .int .i64 0, .int .i64 0, .slice none 0 0] := by
    have h := RowV.of_alloc ((w.alloc (.cells #[.int .i64 a, .int .i64 t0, .int .i64 t] 50)).alloc (.cells (tmV T).toArray 38)) 109 [.int .i64 0, .int .i64 0, .int .i64 0, .slice none 0 0]
    rw [World.size_alloc, World.size_alloc] at h
    rw [hW]; exact h
  have bw : Below w.heap.size w W := by rw [hW]; exact ((belB w _).alloc (by simp) _).alloc (by simp; omega) _
  have B0 := Lib.hid b0
  have B1 := Lib.hid b1
  have B2 := Lib.hid b2
  have BW := Lib.hid bw
  have HCK := Lib.hid hck
  have HNO := Lib.hid hno
  have HP := Lib.hid hP
  have HPR := Lib.hid hp
  have HI2 := Lib.hid (szT hl)
  have k0 := b0.cell (i := 0) rfl
  have k1 := b0.cell (i := 1) rfl
  have k2 := b0.cell (i := 2) rfl
  clear hP hck hno hp hl hs hk hv hst b0 b1 b2 bw
  generalize TuP w a t0 t T D wn = Post at *
  have KK := Lib.hid (And.intro k0 (And.intro k1 k2))
  clear k0 k1 k2
  subst hW
  obtain ⟨k0, k1, k2⟩ := KK.out
  clear KK
  go_enter Tryd.func68, Tryd.ntmps68
  go_wp2_with fail
  refine (HCK.out _).mono ?_
  rintro e w1 ⟨he, hb1⟩
  subst he
  have R0 := Lib.hid (B0.out.up hb1)
  have R1 := Lib.hid (B1.out.up hb1)
  have R2 := Lib.hid (B2.out.up hb1)
  have RB := Lib.hid (BW.out.trans (hb1.mono BW.out.size))
  clear hb1 B0 B1 B2 BW HCK k0 k1 k2
  go_wp2_with ((show wpList _ _ _ (⟨_, .load _ _, _, _, _, _⟩ :: _) _ _); refine wpList_load_mid rfl 38 _ rfl (w.heap.size + 1) 0 rfl (tmV T) _ R1.out.all Tryd.underlying38 rfl HI2.out ?_)
  refine (HNO.out _ (HPR.out.below RB.out)).mono ?_
  rintro e w2 ⟨N, g, hN, he, hg, hgb, hb2⟩
  subst he
  have q0 := R0.out.up hb2
  have q2 := R2.out.up hb2
  have QB := Lib.hid (RB.out.trans (hb2.mono RB.out.size))
  have k0 := q0.cell (i := 0) rfl
  have k1 := q0.cell (i := 1) rfl
  have k2 := q0.cell (i := 2) rfl
  have m0 := q2.cell (i := 0) rfl
  have m1 := q2.cell (i := 1) rfl
  have m2 := q2.cell (i := 2) rfl
  have m3 := q2.cell (i := 3) rfl
  have z0 := RowV.z (i := 0) q2
  have z1 := RowV.z (i := 1) q2
  have z2 := RowV.z (i := 2) q2
  have z3 := RowV.z (i := 3) q2
  have HG := Lib.hid hg
  have HN := Lib.hid hN
  have hlt := R2.out.lt
  have Q2 := Lib.hid q2
  have hgs := RB.out.size
  clear hb2 q0 q2 hg hN R0 R1 R2 RB HNO
  go_wp2
  have hf : RowV ((((w2.setCell ⟨w.heap.size + 1 + 1, 0, none⟩ (.int .i64 a)).setCell ⟨w.heap.size + 1 + 1, 1, none⟩ (.int .i64 t0)).setCell ⟨w.heap.size + 1 + 1, 2, none⟩ (.int .i64 t)).setCell ⟨w.heap.size + 1 + 1, 3, none⟩ (.slice (some ⟨g, 0, none⟩) 12 12)) (w.heap.size + 1 + 1) 109 (TunV a t0 t g) := (((Q2.out.setCell 0 (.int .i64 a)).setCell 1 (.int .i64 t0)).setCell 2 (.int .i64 t)).setCell 3 (.slice (some ⟨g, 0, none⟩) 12 12)
  have hne : g ≠ w.heap.size + 1 + 1 := by omega
  refine bodyPost_ret (v := .tuple #[.agg (TunV a t0 t g).toArray, .int .i64 0]) (Tp.results_cell_tmp (a := 4) (b := 5) rfl rfl (run_loadVar_mid _ _ 0 _ (TunV a t0 t g) _ hf.all Tryd.underlying109 rfl (szTun _ rfl))) rfl ?_
  rw [HP.out]
  exact ⟨N, g, HN.out, rfl, RowV.far (RowV.far (RowV.far (RowV.far HG.out hne) hne) hne) hne, by omega, (((QB.out.setCell (by show w.heap.size ≤ w.heap.size + 1 + 1; omega) _).setCell (by show w.heap.size ≤ w.heap.size + 1 + 1; omega) _).setCell (by show w.heap.size ≤ w.heap.size + 1 + 1; omega) _).setCell (by show w.heap.size ≤ w.heap.size + 1 + 1; omega) _⟩
end Go.Proofs.YtmbcejldifobnaaDoor.Pc

namespace Go.Proofs.YtmbcejldifobnaaDoor.Pc
open Go.RowKit Tp
/-- The ratio of a note to the note 69. -/
def noR (x y : Rt) (n : Nat) : Rt := ⟨(bothW x y (-1)).1.v.two (((n : Int) / 12 - 5) * (bothW x y (-1)).1.d), (bothW x y (-1)).1.d⟩
set_option maxRecDepth 100000 in
set_option maxHeartbeats 4000000 in
theorem atT0_ok (a : Nat) (t0 t : Int) (g n q : Nat) (N : List Rt) (x y : Rt) (w : World) (hp : PrL w) (hn : n ≤ 139) (hq : q = n % 12) (hg : RowV w g 98 (fl7 N)) (hx : N[q]? = some x) (hy : N[9]? = some y)
    (hd1 : 1 ≤ (bothW x y (-1)).1.d) (hd2 : (bothW x y (-1)).1.d ≤ 1000) (hv1 : -1000000 ≤ (bothW x y (-1)).1.v.a) (hv2 : (bothW x y (-1)).1.v.a ≤ 1000000) (herr : (noR x y n).err = 0) (hbd : Bd 1000000000 (nz (noR x y n).v.zl)) (hln : (nz (noR x y n).v.zl).length ≤ 100) :
    Calls Tryd.prog 122 #[.agg (TunV (a : Int) t0 t g).toArray, .int .i64 (n : Int)] w fun e w' => (∃ V, e = .returned V ∧ RootV w' w.heap.size V (scL (noR x y n).d [(a, 1)] ++ scL 1 (nz (noR x y n).v.zl)) (1 * (noR x y n).d)) ∧ Below w.heap.size w w' := by
  have hdv := fun W => Div_any x.v.a x.v.b x.v.c x.v.d x.v.e x.v.f x.d y.v.a y.v.b y.v.c y.v.d y.v.e y.v.f y.d W
  obtain ⟨⟨r, er⟩, hr⟩ : ∃ r, r = bothW x y (-1) := ⟨_, rfl⟩
  have hrx : bothW ⟨⟨x.v.a, x.v.b, x.v.c, x.v.d, x.v.e, x.v.f⟩, x.d⟩ ⟨⟨y.v.a, y.v.b, y.v.c, y.v.d, y.v.e, y.v.f⟩, y.d⟩ (-1) = (r, er) := hr.symm
  have hno : noR x y n = ⟨r.v.two (((n : Int) / 12 - 5) * r.d), r.d⟩ := by unfold noR; rw [← hr]
  rw [hrx] at hdv
  obtain ⟨R, hR⟩ : ∃ R, R = noR x y n := ⟨_, rfl⟩
  rw [← hR] at herr hbd hln ⊢
  rw [hno] at hR
  rw [← hr] at hd1 hd2 hv1 hv2
  simp only at hd1 hd2 hv1 hv2 hdv
  unfold RtPost at hdv
  obtain ⟨W, hW⟩ : ∃ W, W = (w.alloc (.cells (TunV (a : Int) t0 t g).toArray 109)).alloc (.cells #[.slice none 0 0, .int .i64 0] 113) := ⟨_, rfl⟩
  have b0 : RowV W w.heap.size 109 (TunV (a : Int) t0 t g) := by rw [hW]; exact (RowV.of_alloc w 109 (TunV (a : Int) t0 t g)).alloc _
  have b1 : RowV W (w.heap.size + 1) 113 [.slice none 0 0, .int .i64 0] := by
    have h := RowV.of_alloc (w.alloc (.cells (TunV (a : Int) t0 t g).toArray 109)) 113 [.slice none 0 0, .int .i64 0]
    rw [World.size_alloc] at h
    rw [hW]; exact h
  have bw : Below w.heap.size w W := by rw [hW]; exact (belB w _).alloc (by simp) _
  have hWs := b1.lt
  have RT := Lib.hid b0
  have RR := Lib.hid b1
  have RB := Lib.hid bw
  have RG := Lib.hid (hg.up bw)
  have HDV := Lib.hid hdv
  have HX := Lib.hid hx
  have HY := Lib.hid hy
  have HPR := Lib.hid hp
  have HER := Lib.hid herr
  have HBD := Lib.hid hbd
  have HLN := Lib.hid hln
  have n1 : (n : Int) % 12 = (q : Int) := by omega
  have n2 : (n : Int).tmod 12 = (q : Int) := by rw [Int.tmod_eq_emod_of_nonneg (by omega)]; exact n1
  have q12 : (q : Int) < 12 := by omega
  obtain ⟨o, ho⟩ : ∃ o : Nat, (n : Int) / 12 = (o : Int) := ⟨n / 12, by omega⟩
  have ho2 : (n : Int).tdiv 12 = (o : Int) := by rw [Int.tdiv_eq_ediv_of_nonneg (by omega)]; exact ho
  obtain ⟨k, hk⟩ : ∃ k : Int, k = (o : Int) - 5 := ⟨_, rfl⟩
  have hkb : -5 ≤ k ∧ k ≤ 6 := by omega
  have ow : IntKind.i64.wrap ((o : Int) - 5) = k := by rw [← hk]; exact IntWalk.i64_in _ (by omega)
  obtain ⟨p, hpp⟩ : ∃ p : Int, p = k * r.d := ⟨_, rfl⟩
  have hp1 := Int.mul_le_mul_of_nonneg_right hkb.1 (show (0 : Int) ≤ r.d by omega)
  have hp2 := Int.mul_le_mul_of_nonneg_right hkb.2 (show (0 : Int) ≤ r.d by omega)
  rw [← hpp] at hp1 hp2
  have mw : IntKind.i64.wrap (k * r.d) = p := by rw [← hpp]; exact IntWalk.i64_in _ (by omega)
  obtain ⟨s, hs⟩ : ∃ s : Int, s = r.v.a + p := ⟨_, rfl⟩
  have aw : IntKind.i64.wrap (r.v.a + p) = s := by rw [hs]; exact IntWalk.i64_in _ (by omega)
  have ow' : wrap64 ((o : Int) - 5) = k := (IntWalk.i64_left _).symm.trans ow
  have mw' : wrap64 (k * r.d) = p := (IntWalk.i64_left _).symm.trans mw
  have aw' : wrap64 (r.v.a + p) = s := (IntWalk.i64_left _).symm.trans aw
  have mw2 : wrap64 (((o : Int) - 5) * r.d) = p := by rw [← hk]; exact mw'
  have hob : (o : Int) ≤ 11 := by omega
  have hRc : (cellsR r).set 0 (.int .i64 s) = cellsR R := by rw [hR, ho, ← hk, ← hpp, hs]; rfl
  have hRd : R.d = r.d := by rw [hR]
  have HRC := Lib.hid hRc
  have hte := fun W (h : PrL W) => (Terms_any R.v.a R.v.b R.v.c R.v.d R.v.e R.v.f R.d W h : Calls Tryd.prog 163 #[.agg (cellsR R).toArray] W (TePost W R))
  have HTE := Lib.hid hte
  have HWH := Lib.hid (fun W => whole_any a W)
  have HRD : Hid (1 ≤ R.d ∧ R.d ≤ 1000) := Lib.hid (by rw [hRd]; exact ⟨hd1, hd2⟩)
  clear b0 b1 bw hg hdv hx hy hp herr hbd hln hr hrx hno hq hR ho hk hpp hs hRc hRd hte hp1 hp2 hkb ow ow' mw mw' aw
  go_enter Tryd.func122, Tryd.ntmps122
  go_wp2_with fail
  have hWf : (w.alloc (.cells #[.int .i64 (a : Int), .int .i64 t0, .int .i64 t, .slice (some ⟨g, 0, none⟩) 12 12] 109)).alloc (.cells #[.slice none 0 0, .int .i64 0] 113) = W := hW.symm
  (try rw [hWf])
  (try rw [← hW])
  clear hW hWf
  refine wp_region_noPanic ?_
  have hb0 : Below W.heap.size W W.drew := (Below.refl _ _).drew
  refine wp_region_held_drew (S := fun w' => Below W.heap.size W w') (by kernel_rfl) hb0 (fun _ => ?_)
  refine wpAnyH_take (i := 0) (oi := ⟨some 11, _, _, _, _, _⟩) (v := .pointer (some ⟨w.heap.size, 3, none⟩)) rfl (by kernel_rfl) (by kernel_rfl) (by kernel_rfl) (fun _ _ _ h => h) (Or.inl ⟨by rfl, fun w' hS => by go_simp; (try (with_reducible rfl))⟩) hb0 ?_
  (try simp only [Act.put, List.setIfInBounds_toArray, List.set_cons_zero, List.set_cons_succ])
  refine wpAnyH_take (i := 1) (oi := ⟨some 12, _, _, _, _, _⟩) (v := .slice (some ⟨g, 0, none⟩) 12 12) rfl (by kernel_rfl) (by kernel_rfl) (by kernel_rfl) (fun _ _ _ h => h) (Or.inl ⟨by rfl, fun w' hS => by have e0 : w'.cell? ⟨w.heap.size, 3, none⟩ = some (.slice (some ⟨g, 0, none⟩) 12 12) := (RT.out.up hS).cell (i := 3) rfl; go_simp; (try (with_reducible rfl))⟩) hb0 ?_
  (try simp only [Act.put, List.setIfInBounds_toArray, List.set_cons_zero, List.set_cons_succ])
  refine wpAnyH_take (i := 2) (oi := ⟨some 13, _, _, _, _, _⟩) (v := .int .i64 (n : Int)) rfl (by kernel_rfl) (by kernel_rfl) (by kernel_rfl) (fun _ _ _ h => h) (Or.inl ⟨by rfl, fun w' hS => by go_simp; (try (with_reducible rfl))⟩) hb0 ?_
  (try simp only [Act.put, List.setIfInBounds_toArray, List.set_cons_zero, List.set_cons_succ])
  refine wpAnyH_take (i := 3) (oi := ⟨some 14, _, _, _, _, _⟩) (v := .int .i64 (q : Int)) rfl (by kernel_rfl) (by kernel_rfl) (by kernel_rfl) (fun _ _ _ h => h) (Or.inl ⟨by rfl, fun w' hS => by go_simp; (try (with_reducible rfl))⟩) hb0 ?_
  (try simp only [Act.put, List.setIfInBounds_toArray, List.set_cons_zero, List.set_cons_succ])
  refine wpAnyH_take (i := 4) (oi := ⟨some 15, _, _, _, _, _⟩) (v := .pointer (some ⟨g, q * 7, none⟩)) rfl (by kernel_rfl) (by kernel_rfl) (by kernel_rfl) (fun _ _ _ h => h) (Or.inl ⟨by rfl, fun w' hS => by go_simp; (try (with_reducible rfl))⟩) hb0 ?_
  (try simp only [Act.put, List.setIfInBounds_toArray, List.set_cons_zero, List.set_cons_succ])
  refine wpAnyH_take (i := 5) (oi := ⟨some 16, _, _, _, _, _⟩) (v := .agg (cellsR x).toArray) rfl (by kernel_rfl) (by kernel_rfl) (by kernel_rfl) (fun _ _ _ h => h) (yieldsIf_load_mid (by rfl) 24 _ rfl g (q * 7) rfl (cellsR x) _ (fun w' h => RowV.at7 (RG.out.up h) HX.out) Tryd.underlying24 rfl (szR x)) hb0 ?_
  (try simp only [Act.put, List.setIfInBounds_toArray, List.set_cons_zero, List.set_cons_succ])
  refine wpAnyH_take (i := 6) (oi := ⟨some 17, _, _, _, _, _⟩) (v := .pointer (some ⟨w.heap.size, 3, none⟩)) rfl (by kernel_rfl) (by kernel_rfl) (by kernel_rfl) (fun _ _ _ h => h) (Or.inl ⟨by rfl, fun w' hS => by go_simp; (try (with_reducible rfl))⟩) hb0 ?_
  (try simp only [Act.put, List.setIfInBounds_toArray, List.set_cons_zero, List.set_cons_succ])
  refine wpAnyH_take (i := 7) (oi := ⟨some 18, _, _, _, _, _⟩) (v := .slice (some ⟨g, 0, none⟩) 12 12) rfl (by kernel_rfl) (by kernel_rfl) (by kernel_rfl) (fun _ _ _ h => h) (Or.inl ⟨by rfl, fun w' hS => by have e0 : w'.cell? ⟨w.heap.size, 3, none⟩ = some (.slice (some ⟨g, 0, none⟩) 12 12) := (RT.out.up hS).cell (i := 3) rfl; go_simp; (try (with_reducible rfl))⟩) hb0 ?_
  (try simp only [Act.put, List.setIfInBounds_toArray, List.set_cons_zero, List.set_cons_succ])
  refine wpAnyH_take (i := 8) (oi := ⟨some 19, _, _, _, _, _⟩) (v := .pointer (some ⟨g, 9 * 7, none⟩)) rfl (by kernel_rfl) (by kernel_rfl) (by kernel_rfl) (fun _ _ _ h => h) (Or.inl ⟨by rfl, fun w' hS => by go_simp; (try (with_reducible rfl))⟩) hb0 ?_
  (try simp only [Act.put, List.setIfInBounds_toArray, List.set_cons_zero, List.set_cons_succ])
  refine wpAnyH_take (i := 9) (oi := ⟨some 20, _, _, _, _, _⟩) (v := .agg (cellsR y).toArray) rfl (by kernel_rfl) (by kernel_rfl) (by kernel_rfl) (fun _ _ _ h => h) (yieldsIf_load_mid (by rfl) 24 _ rfl g (9 * 7) rfl (cellsR y) _ (fun w' h => RowV.at7 (RG.out.up h) HY.out) Tryd.underlying24 rfl (szR y)) hb0 ?_
  (try simp only [Act.put, List.setIfInBounds_toArray, List.set_cons_zero, List.set_cons_succ])
  refine wpAnyH_ready (rs := [10, 14]) (by kernel_rfl) (by simp) (AllReadyH.cons (o := ⟨some 21, _, _, _, _, _⟩) rfl (fun K hK => ?_) (AllReadyH.cons (o := ⟨some 5, _, _, _, _, _⟩) rfl (fun K hK => ?_) AllReadyH.nil))
  · rw [if_pos (by rfl)]
    go_simp
    refine (HDV.out _).mono ?_
    rintro e u1 ⟨he, hc1⟩
    subst he
    have hb1 := hb0.trans (hc1.mono hb0.size)
    have hc1k := hc1
    clear hc1
    (try go_wp2_with fail)
    refine hK.out _ _ hb1 (fun _ => ?_)
    clear hK K
    (try simp only [Act.put, List.setIfInBounds_toArray, List.set_cons_zero, List.set_cons_succ])
    refine wpAnyH_take (i := 11) (oi := ⟨some 10, _, _, _, _, _⟩) (v := ?_) rfl (by kernel_rfl) (by kernel_rfl) (by kernel_rfl) (fun _ _ _ h => h) (Or.inl ⟨by rfl, ?_⟩) hb1 ?_
    rotate_left
    · (intro w hSw; go_simp; (try (with_reducible rfl)))
    (try simp only [Act.put, List.setIfInBounds_toArray, List.set_cons_zero, List.set_cons_succ])
    refine wpAnyH_take (i := 12) (oi := ⟨some 22, _, _, _, _, _⟩) (v := ?_) rfl (by kernel_rfl) (by kernel_rfl) (by kernel_rfl) (fun _ _ _ h => h) (Or.inl ⟨by rfl, ?_⟩) hb1 ?_
    rotate_left
    · (intro w hSw; go_simp; (try (with_reducible rfl)))
    (try simp only [Act.put, List.setIfInBounds_toArray, List.set_cons_zero, List.set_cons_succ])
    refine wpAnyH_take (i := 13) (oi := ⟨some 23, _, _, _, _, _⟩) (v := ?_) rfl (by kernel_rfl) (by kernel_rfl) (by kernel_rfl) (fun _ _ _ h => h) (Or.inl ⟨by rfl, ?_⟩) hb1 ?_
    rotate_left
    · (intro w hSw; go_simp; (try (with_reducible rfl)))
    (try simp only [Act.put, List.setIfInBounds_toArray, List.set_cons_zero, List.set_cons_succ])
    refine wpAnyH_ready (rs := [14]) (by kernel_rfl) (by simp) (AllReadyH.cons (o := ⟨some 5, _, _, _, _, _⟩) rfl (fun K hK => ?_) AllReadyH.nil)
    rw [if_pos (by rfl)]
    go_simp
    (try go_wp2_with fail)
    have hb2 := hb1.alloc hb1.size (.cells #[.int .i64 0, .int .i64 0, .int .i64 0, .int .i64 0, .int .i64 0, .int .i64 0, .int .i64 0] 24)
    have hg2 : RowV (u1.alloc (.cells #[.int .i64 0, .int .i64 0, .int .i64 0, .int .i64 0, .int .i64 0, .int .i64 0, .int .i64 0] 24)) u1.heap.size 24 (cellsR Rt.zero) := RowV.of_alloc u1 24 (cellsR Rt.zero)
    have hge : W.heap.size ≤ u1.heap.size := hb1.size
    refine hK.out _ _ hb2 (fun _ => ?_)
    clear hK K
    (try simp only [Act.put, List.setIfInBounds_toArray, List.set_cons_zero, List.set_cons_succ])
    refine wpAnyH_ready (rs := [15]) (by kernel_rfl) (by simp) (AllReadyH.cons (o := ⟨none, _, _, _, _, _⟩) rfl (fun K hK => ?_) AllReadyH.nil)
    rw [if_pos (by rfl)]
    have hgl := hg2
    have hth := hgl.there (o := 0) (n := 7) (by show 0 + 7 ≤ 7; omega)
    refine wp_store_mid 24 _ _ rfl u1.heap.size 0 (cellsR r).toArray rfl rfl hth (szR r) (oneR r) ?_
    have hbf := below_setCells (g := u1.heap.size) (cellsR r) 0 _ hb2 hge
    refine hK.out _ _ hbf (fun _ => ?_)
    clear hK K
    (try simp only [Act.put])
    refine wpAnyH_take (i := 16) (oi := ⟨some 6, _, _, _, _, _⟩) (v := ?_) rfl (by kernel_rfl) (by kernel_rfl) (by kernel_rfl) (fun _ _ _ h => h) (Or.inl ⟨by rfl, ?_⟩) hbf ?_
    rotate_left
    · (intro w hSw; go_simp; (try (with_reducible rfl)))
    (try simp only [Act.put, List.setIfInBounds_toArray, List.set_cons_zero, List.set_cons_succ])
    refine wpAnyH_done (by kernel_rfl) ?_ _
    refine NoPanic.normal ?_
    have hdd : RowV _ u1.heap.size 24 (cellsR r) := hgl.setCells (cellsR r) 0 _ _ (by show 0 + 7 ≤ 7; omega)
    clear hgl hth
    have qt := RT.out.up hbf
    have qr := RR.out.up hbf
    have qb := RB.out.trans (hbf.mono RB.out.size)
    have hgg : W.heap.size ≤ u1.heap.size := hge
    clear hbf hge RT RR RB RG
    generalize u1.heap.size = gR at *
    have QD := Lib.hid hdd
    have QT := Lib.hid qt
    have QR := Lib.hid qr
    have QB := Lib.hid qb
    clear hdd qt qr qb
    clear hb0 hb1 hb2 hc1k hg2
    generalize ((u1.alloc (.cells #[.int .i64 0, .int .i64 0, .int .i64 0, .int .i64 0, .int .i64 0, .int .i64 0, .int .i64 0] 24)).setCells gR 0 (cellsR r)) = WF at *
    have c0 := QD.out.cell (i := 0) rfl
    have c6 := QD.out.cell (i := 6) rfl
    have z0 := RowV.z (i := 0) QD.out
    have q1 := QD.out.setCell 0 (.int .i64 s)
    rw [HRC.out] at q1
    have hgne : gR ≠ w.heap.size ∧ gR ≠ w.heap.size + 1 := by omega
    have q2 := RowV.far (b := gR) (i := 0) (x := .int .i64 s) QT.out (by omega)
    have q3 := RowV.far (b := gR) (i := 0) (x := .int .i64 s) QR.out (by omega)
    have q4 := QB.out.setCell (p := ⟨gR, 0, none⟩) (by show w.heap.size ≤ gR; omega) (.int .i64 s)
    have D1 := Lib.hid q1
    have D2 := Lib.hid q2
    have D3 := Lib.hid q3
    have D4 := Lib.hid q4
    clear q1 q2 q3 q4 QD QT QR QB
    go_wp2_with ((show wpList _ _ _ (⟨_, .load _ _, _, _, _, _⟩ :: _) _ _); refine wpList_load_mid rfl 24 _ rfl gR 0 rfl (cellsR R) _ D1.out.all Tryd.underlying24 rfl (szR R) ?_)
    refine (HTE.out _ (HPR.out.below D4.out)).mono ?_
    rintro e u4 hpost
    rcases hpost with ⟨-, v, he, hrow, hb4⟩ | ⟨hne, -⟩
    case' inr => exact absurd HER.out hne
    subst he
    obtain ⟨tA, tcap, rfl, htc, htm, htf⟩ := hrow.form
    have E2 := Lib.hid (D2.out.up hb4)
    have E3 := Lib.hid (D3.out.up hb4)
    have E4 := Lib.hid (D4.out.trans (hb4.mono D4.out.size))
    have HTR := Lib.hid hrow
    have ka := E2.out.cell (i := 0) rfl
    clear hrow hb4 D1 D2 D3 D4 HTE htf c0 c6 z0
    go_wp2_with fail
    refine (HWH.out _).mono ?_
    rintro e u5 ⟨⟨V, he, wv, rfl, hroww⟩, hb5⟩
    subst he
    obtain ⟨wA, wcap, rfl, hwc, hwm, hwf⟩ := hroww.form
    have hg := heap_alloc_new u5 (.cells #[.slice wA 1 wcap, .int .i64 1, .slice tA (nz R.v.zl).length tcap, .int .i64 R.d] 113)
    have hbu := belA u5 (.cells #[.slice wA 1 wcap, .int .i64 1, .slice tA (nz R.v.zl).length tcap, .int .i64 R.d] 113)
    have HM1 := Lib.hid (hroww.up hbu).tmc
    have HM2 := Lib.hid ((HTR.out.up hb5).up hbu).tmc
    have E6 := Lib.hid ((E3.out.up hb5).up hbu)
    have E7 := Lib.hid ((E4.out.trans (hb5.mono E4.out.size)).trans (hbu.mono (E4.out.trans (hb5.mono E4.out.size)).size))
    have hsz5 := (E4.out.trans (hb5.mono E4.out.size)).size
    have G0 := Lib.hid (And.intro (Go.Joins.cell_of_block hg 0) (And.intro (Go.Joins.cell_of_block hg 1) (And.intro (Go.Joins.cell_of_block hg 2) (Go.Joins.cell_of_block hg 3))))
    have hlt5 : w.heap.size + 1 < u5.heap.size := Nat.lt_of_lt_of_le E3.out.lt hb5.size
    clear hb5 hroww hwf hg hbu E2 E3 E4 HTR ka
    go_wp2_with fail
    refine (product2 u5.heap.size 2 wA wcap [(a, 1)] 1 tA tcap (nz R.v.zl) R.d _ (by simp) G0.out.1 G0.out.2.1 G0.out.2.2.1 G0.out.2.2.2 HM1.out HM2.out (by simp) HLN.out (fun x hx => by rw [List.mem_singleton] at hx; subst hx; simp only; omega) HBD.out (by omega) (by omega) HRD.out.1 HRD.out.2).mono ?_
    rintro e u6 ⟨⟨V, he, zv, rfl, hrowz⟩, hb6⟩
    subst he
    obtain ⟨zA, zcap, rfl, hzc, hzm, hzf⟩ := hrowz.form
    have r3 := E6.out.up hb6
    have c20 := RowV.c0 r3
    have c21 := RowV.c1 r3
    have z20 := RowV.z (i := 0) r3
    have z21 := RowV.z (i := 1) r3
    have HZ := Lib.hid hrowz
    have E8 := Lib.hid (E7.out.trans (hb6.mono E7.out.size))
    clear hrowz r3 hb6 E6 E7 G0 HM1 HM2
    go_wp2
    refine bodyPost_ret (v := .agg #[.slice zA (scL R.d [(a, 1)] ++ scL 1 (nz R.v.zl)).length zcap, .int .i64 (1 * R.d)]) (results_one rfl rfl (load_root2 ?_ ?_)) rfl ⟨⟨_, rfl, _, rfl, RowT.low (B := (u5.alloc (.cells #[.slice wA 1 wcap, .int .i64 1, .slice tA (nz R.v.zl).length tcap, .int .i64 R.d] 113)).heap.size) (HZ.out.keep fun k hk => ?_) ?_⟩, (E8.out.setCell (by show w.heap.size ≤ w.heap.size + 1; omega) _).setCell (by show w.heap.size ≤ w.heap.size + 1; omega) _⟩
    · rw [World.cell?_setCell_other _ _ _ _ (by simp), World.cell?_setCell_same _ _ _ c20]
      simp only [List.length_append]
    · (try rw [Int.one_mul])
      exact World.cell?_setCell_same _ _ _ ((World.cell?_setCell_other _ _ _ _ (by simp)).trans c21)
    · have hk2 : k ≠ w.heap.size + 1 := by
        rcases hzf with ⟨rfl, -, -⟩ | ⟨g2, rfl, hg2, -, -⟩
        · cases hk
        · have e2 : g2 = k := Option.some.inj hk
          rw [World.size_alloc] at hg2
          omega
      exact (setCell_heap hk2).trans (setCell_heap hk2)
    · rw [World.size_alloc]
      omega
  · rw [if_pos (by rfl)]
    go_simp
    (try go_wp2_with fail)
    have hb1 := hb0.alloc hb0.size (.cells #[.int .i64 0, .int .i64 0, .int .i64 0, .int .i64 0, .int .i64 0, .int .i64 0, .int .i64 0] 24)
    have hg1 : RowV (W.drew.alloc (.cells #[.int .i64 0, .int .i64 0, .int .i64 0, .int .i64 0, .int .i64 0, .int .i64 0, .int .i64 0] 24)) W.heap.size 24 (cellsR Rt.zero) := RowV.of_alloc W.drew 24 (cellsR Rt.zero)
    have hge : W.heap.size ≤ W.heap.size := hb0.size
    refine hK.out _ _ hb1 (fun _ => ?_)
    clear hK K
    (try simp only [Act.put, List.setIfInBounds_toArray, List.set_cons_zero, List.set_cons_succ])
    refine wpAnyH_ready (rs := [10]) (by kernel_rfl) (by simp) (AllReadyH.cons (o := ⟨some 21, _, _, _, _, _⟩) rfl (fun K hK => ?_) AllReadyH.nil)
    rw [if_pos (by rfl)]
    go_simp
    refine (HDV.out _).mono ?_
    rintro e u2 ⟨he, hc2⟩
    subst he
    have hb2 := hb1.trans (hc2.mono hb1.size)
    have hc2k := hc2
    clear hc2
    (try go_wp2_with fail)
    refine hK.out _ _ hb2 (fun _ => ?_)
    clear hK K
    (try simp only [Act.put, List.setIfInBounds_toArray, List.set_cons_zero, List.set_cons_succ])
    refine wpAnyH_take (i := 11) (oi := ⟨some 10, _, _, _, _, _⟩) (v := ?_) rfl (by kernel_rfl) (by kernel_rfl) (by kernel_rfl) (fun _ _ _ h => h) (Or.inl ⟨by rfl, ?_⟩) hb2 ?_
    rotate_left
    · (intro w hSw; go_simp; (try (with_reducible rfl)))
    (try simp only [Act.put, List.setIfInBounds_toArray, List.set_cons_zero, List.set_cons_succ])
    refine wpAnyH_take (i := 12) (oi := ⟨some 22, _, _, _, _, _⟩) (v := ?_) rfl (by kernel_rfl) (by kernel_rfl) (by kernel_rfl) (fun _ _ _ h => h) (Or.inl ⟨by rfl, ?_⟩) hb2 ?_
    rotate_left
    · (intro w hSw; go_simp; (try (with_reducible rfl)))
    (try simp only [Act.put, List.setIfInBounds_toArray, List.set_cons_zero, List.set_cons_succ])
    refine wpAnyH_take (i := 13) (oi := ⟨some 23, _, _, _, _, _⟩) (v := ?_) rfl (by kernel_rfl) (by kernel_rfl) (by kernel_rfl) (fun _ _ _ h => h) (Or.inl ⟨by rfl, ?_⟩) hb2 ?_
    rotate_left
    · (intro w hSw; go_simp; (try (with_reducible rfl)))
    (try simp only [Act.put, List.setIfInBounds_toArray, List.set_cons_zero, List.set_cons_succ])
    refine wpAnyH_ready (rs := [15]) (by kernel_rfl) (by simp) (AllReadyH.cons (o := ⟨none, _, _, _, _, _⟩) rfl (fun K hK => ?_) AllReadyH.nil)
    rw [if_pos (by rfl)]
    have hgl := hg1.up hc2k
    have hth := hgl.there (o := 0) (n := 7) (by show 0 + 7 ≤ 7; omega)
    refine wp_store_mid 24 _ _ rfl W.heap.size 0 (cellsR r).toArray rfl rfl hth (szR r) (oneR r) ?_
    have hbf := below_setCells (g := W.heap.size) (cellsR r) 0 _ hb2 hge
    refine hK.out _ _ hbf (fun _ => ?_)
    clear hK K
    (try simp only [Act.put])
    refine wpAnyH_take (i := 16) (oi := ⟨some 6, _, _, _, _, _⟩) (v := ?_) rfl (by kernel_rfl) (by kernel_rfl) (by kernel_rfl) (fun _ _ _ h => h) (Or.inl ⟨by rfl, ?_⟩) hbf ?_
    rotate_left
    · (intro w hSw; go_simp; (try (with_reducible rfl)))
    (try simp only [Act.put, List.setIfInBounds_toArray, List.set_cons_zero, List.set_cons_succ])
    refine wpAnyH_done (by kernel_rfl) ?_ _
    refine NoPanic.normal ?_
    have hdd : RowV _ W.heap.size 24 (cellsR r) := hgl.setCells (cellsR r) 0 _ _ (by show 0 + 7 ≤ 7; omega)
    clear hgl hth
    have qt := RT.out.up hbf
    have qr := RR.out.up hbf
    have qb := RB.out.trans (hbf.mono RB.out.size)
    have hgg : W.heap.size ≤ W.heap.size := hge
    clear hbf hge RT RR RB RG
    generalize W.heap.size = gR at *
    have QD := Lib.hid hdd
    have QT := Lib.hid qt
    have QR := Lib.hid qr
    have QB := Lib.hid qb
    clear hdd qt qr qb
    clear hb0 hb1 hb2 hc2k hg1
    generalize (u2.setCells gR 0 (cellsR r)) = WF at *
    have c0 := QD.out.cell (i := 0) rfl
    have c6 := QD.out.cell (i := 6) rfl
    have z0 := RowV.z (i := 0) QD.out
    have q1 := QD.out.setCell 0 (.int .i64 s)
    rw [HRC.out] at q1
    have hgne : gR ≠ w.heap.size ∧ gR ≠ w.heap.size + 1 := by omega
    have q2 := RowV.far (b := gR) (i := 0) (x := .int .i64 s) QT.out (by omega)
    have q3 := RowV.far (b := gR) (i := 0) (x := .int .i64 s) QR.out (by omega)
    have q4 := QB.out.setCell (p := ⟨gR, 0, none⟩) (by show w.heap.size ≤ gR; omega) (.int .i64 s)
    have D1 := Lib.hid q1
    have D2 := Lib.hid q2
    have D3 := Lib.hid q3
    have D4 := Lib.hid q4
    clear q1 q2 q3 q4 QD QT QR QB
    go_wp2_with ((show wpList _ _ _ (⟨_, .load _ _, _, _, _, _⟩ :: _) _ _); refine wpList_load_mid rfl 24 _ rfl gR 0 rfl (cellsR R) _ D1.out.all Tryd.underlying24 rfl (szR R) ?_)
    refine (HTE.out _ (HPR.out.below D4.out)).mono ?_
    rintro e u4 hpost
    rcases hpost with ⟨-, v, he, hrow, hb4⟩ | ⟨hne, -⟩
    case' inr => exact absurd HER.out hne
    subst he
    obtain ⟨tA, tcap, rfl, htc, htm, htf⟩ := hrow.form
    have E2 := Lib.hid (D2.out.up hb4)
    have E3 := Lib.hid (D3.out.up hb4)
    have E4 := Lib.hid (D4.out.trans (hb4.mono D4.out.size))
    have HTR := Lib.hid hrow
    have ka := E2.out.cell (i := 0) rfl
    clear hrow hb4 D1 D2 D3 D4 HTE htf c0 c6 z0
    go_wp2_with fail
    refine (HWH.out _).mono ?_
    rintro e u5 ⟨⟨V, he, wv, rfl, hroww⟩, hb5⟩
    subst he
    obtain ⟨wA, wcap, rfl, hwc, hwm, hwf⟩ := hroww.form
    have hg := heap_alloc_new u5 (.cells #[.slice wA 1 wcap, .int .i64 1, .slice tA (nz R.v.zl).length tcap, .int .i64 R.d] 113)
    have hbu := belA u5 (.cells #[.slice wA 1 wcap, .int .i64 1, .slice tA (nz R.v.zl).length tcap, .int .i64 R.d] 113)
    have HM1 := Lib.hid (hroww.up hbu).tmc
    have HM2 := Lib.hid ((HTR.out.up hb5).up hbu).tmc
    have E6 := Lib.hid ((E3.out.up hb5).up hbu)
    have E7 := Lib.hid ((E4.out.trans (hb5.mono E4.out.size)).trans (hbu.mono (E4.out.trans (hb5.mono E4.out.size)).size))
    have hsz5 := (E4.out.trans (hb5.mono E4.out.size)).size
    have G0 := Lib.hid (And.intro (Go.Joins.cell_of_block hg 0) (And.intro (Go.Joins.cell_of_block hg 1) (And.intro (Go.Joins.cell_of_block hg 2) (Go.Joins.cell_of_block hg 3))))
    have hlt5 : w.heap.size + 1 < u5.heap.size := Nat.lt_of_lt_of_le E3.out.lt hb5.size
    clear hb5 hroww hwf hg hbu E2 E3 E4 HTR ka
    go_wp2_with fail
    refine (product2 u5.heap.size 2 wA wcap [(a, 1)] 1 tA tcap (nz R.v.zl) R.d _ (by simp) G0.out.1 G0.out.2.1 G0.out.2.2.1 G0.out.2.2.2 HM1.out HM2.out (by simp) HLN.out (fun x hx => by rw [List.mem_singleton] at hx; subst hx; simp only; omega) HBD.out (by omega) (by omega) HRD.out.1 HRD.out.2).mono ?_
    rintro e u6 ⟨⟨V, he, zv, rfl, hrowz⟩, hb6⟩
    subst he
    obtain ⟨zA, zcap, rfl, hzc, hzm, hzf⟩ := hrowz.form
    have r3 := E6.out.up hb6
    have c20 := RowV.c0 r3
    have c21 := RowV.c1 r3
    have z20 := RowV.z (i := 0) r3
    have z21 := RowV.z (i := 1) r3
    have HZ := Lib.hid hrowz
    have E8 := Lib.hid (E7.out.trans (hb6.mono E7.out.size))
    clear hrowz r3 hb6 E6 E7 G0 HM1 HM2
    go_wp2
    refine bodyPost_ret (v := .agg #[.slice zA (scL R.d [(a, 1)] ++ scL 1 (nz R.v.zl)).length zcap, .int .i64 (1 * R.d)]) (results_one rfl rfl (load_root2 ?_ ?_)) rfl ⟨⟨_, rfl, _, rfl, RowT.low (B := (u5.alloc (.cells #[.slice wA 1 wcap, .int .i64 1, .slice tA (nz R.v.zl).length tcap, .int .i64 R.d] 113)).heap.size) (HZ.out.keep fun k hk => ?_) ?_⟩, (E8.out.setCell (by show w.heap.size ≤ w.heap.size + 1; omega) _).setCell (by show w.heap.size ≤ w.heap.size + 1; omega) _⟩
    · rw [World.cell?_setCell_other _ _ _ _ (by simp), World.cell?_setCell_same _ _ _ c20]
      simp only [List.length_append]
    · (try rw [Int.one_mul])
      exact World.cell?_setCell_same _ _ _ ((World.cell?_setCell_other _ _ _ _ (by simp)).trans c21)
    · have hk2 : k ≠ w.heap.size + 1 := by
        rcases hzf with ⟨rfl, -, -⟩ | ⟨g2, rfl, hg2, -, -⟩
        · cases hk
        · have e2 : g2 = k := Option.some.inj hk
          rw [World.size_alloc] at hg2
          omega
      exact (setCell_heap hk2).trans (setCell_heap hk2)
    · rw [World.size_alloc]
      omega
end Go.Proofs.YtmbcejldifobnaaDoor.Pc

namespace Go.Proofs.YtmbcejldifobnaaDoor.Pc
open Go.RowKit Tp
set_option maxRecDepth 100000 in
set_option maxHeartbeats 4000000 in
/-- Of whatever atT0 returns. -/
theorem frequency_ok (a : Nat) (t0 t : Int) (g n : Nat) (L1 : List (Nat × Int)) (d1 : Int) (w : World)
    (hat : ∀ W, Below w.heap.size w W → Calls Tryd.prog 122 #[.agg (TunV (a : Int) t0 t g).toArray, .int .i64 (n : Int)] W fun e w' => (∃ V, e = .returned V ∧ RootV w' W.heap.size V L1 d1) ∧ Below W.heap.size W w')
    (hL1 : L1.length ≤ 100) (hB1 : Bd 1000000000 L1) (hd1 : 1 ≤ d1) (hd2 : d1 ≤ 1000) (h1 : -20000 ≤ t0) (h2 : t0 ≤ 50000) (h3 : -20000 ≤ t) (h4 : t ≤ 50000) :
    Calls Tryd.prog 67 #[.agg (TunV (a : Int) t0 t g).toArray, .int .i64 (n : Int)] w fun e w' => (∃ V, e = .returned V ∧ RootV w' w.heap.size V (scL 2 L1 ++ scL d1 (fastL t0 t)) (d1 * 2)) ∧ Below w.heap.size w w' := by
  obtain ⟨W, hW⟩ : ∃ W, W = (w.alloc (.cells (TunV (a : Int) t0 t g).toArray 109)).alloc (.cells #[.slice none 0 0, .int .i64 0] 113) := ⟨_, rfl⟩
  have b0 : RowV W w.heap.size 109 (TunV (a : Int) t0 t g) := by rw [hW]; exact (RowV.of_alloc w 109 (TunV (a : Int) t0 t g)).alloc _
  have b1 : RowV W (w.heap.size + 1) 113 [.slice none 0 0, .int .i64 0] := by
    have h := RowV.of_alloc (w.alloc (.cells (TunV (a : Int) t0 t g).toArray 109)) 113 [.slice none 0 0, .int .i64 0]
    rw [World.size_alloc] at h
    rw [hW]; exact h
  have bw0 : Below w.heap.size w W := by rw [hW]; exact (belB w _).alloc (by simp) _
  have hWs := b1.lt
  have RT := Lib.hid b0
  have RR := Lib.hid b1
  have RB := Lib.hid bw0
  have HAT := Lib.hid (fun W' (h : Below W.heap.size W W') => hat W' (bw0.trans (h.mono bw0.size)))
  have HFA := Lib.hid (fun W' => faster_any t0 t W' h1 h2 h3 h4)
  have HBF : Hid (Bd 1000000000 (fastL t0 t)) := Lib.hid (fun x hx => by have := fastL_ok h1 h2 h3 h4 x hx; omega)
  clear b0 b1 bw0 hat h1 h2 h3 h4
  go_enter Tryd.func67, Tryd.ntmps67
  go_wp2_with fail
  (try rw [← hW])
  clear hW
  refine wp_region_noPanic ?_
  have hb0 : Below W.heap.size W W.drew := (Below.refl _ _).drew
  refine wp_region_held_drew (S := fun w' => RowV w' w.heap.size 109 (TunV (a : Int) t0 t g) ∧ True) (by kernel_rfl) ⟨RT.out.up hb0, trivial⟩ (fun _ => ?_)
  refine wpAnyH_take (i := 0) (oi := ⟨some 5, _, _, _, _, _⟩) (v := .agg (TunV (a : Int) t0 t g).toArray) rfl (by kernel_rfl) (by kernel_rfl) (by kernel_rfl) (fun _ _ _ h => h) (yieldsIf_load_mid (by rfl) 109 _ rfl w.heap.size 0 rfl (TunV (a : Int) t0 t g) _ (fun w' h => RowV.all h.1) Tryd.underlying109 rfl (szTun _ rfl)) ⟨RT.out.up hb0, trivial⟩ ?_
  (try simp only [Act.put, List.setIfInBounds_toArray, List.set_cons_zero, List.set_cons_succ])
  refine wpAnyH_take (i := 1) (oi := ⟨some 6, _, _, _, _, _⟩) (v := .int .i64 (n : Int)) rfl (by kernel_rfl) (by kernel_rfl) (by kernel_rfl) (fun _ _ _ h => h) (Or.inl ⟨by rfl, fun w' hS => by go_simp; (try (with_reducible rfl))⟩) ⟨RT.out.up hb0, trivial⟩ ?_
  (try simp only [Act.put, List.setIfInBounds_toArray, List.set_cons_zero, List.set_cons_succ])
  refine wpAnyH_take (i := 3) (oi := ⟨some 8, _, _, _, _, _⟩) (v := .pointer (some ⟨w.heap.size, 0, none⟩)) rfl (by kernel_rfl) (by kernel_rfl) (by kernel_rfl) (fun _ _ _ h => h) (Or.inl ⟨by rfl, fun w' hS => by go_simp; (try (with_reducible rfl))⟩) ⟨RT.out.up hb0, trivial⟩ ?_
  (try simp only [Act.put, List.setIfInBounds_toArray, List.set_cons_zero, List.set_cons_succ])
  refine wpAnyH_take (i := 4) (oi := ⟨some 9, _, _, _, _, _⟩) (v := .pointer (some ⟨w.heap.size, 1, none⟩)) rfl (by kernel_rfl) (by kernel_rfl) (by kernel_rfl) (fun _ _ _ h => h) (Or.inl ⟨by rfl, fun w' hS => by go_simp; (try (with_reducible rfl))⟩) ⟨RT.out.up hb0, trivial⟩ ?_
  (try simp only [Act.put, List.setIfInBounds_toArray, List.set_cons_zero, List.set_cons_succ])
  refine wpAnyH_take (i := 5) (oi := ⟨some 10, _, _, _, _, _⟩) (v := .int .i64 t0) rfl (by kernel_rfl) (by kernel_rfl) (by kernel_rfl) (fun _ _ _ h => h) (Or.inl ⟨by rfl, fun w' hS => by have e0 : w'.cell? ⟨w.heap.size, 1, none⟩ = some (.int .i64 t0) := hS.1.cell (i := 1) rfl; go_simp; (try (with_reducible rfl))⟩) ⟨RT.out.up hb0, trivial⟩ ?_
  (try simp only [Act.put, List.setIfInBounds_toArray, List.set_cons_zero, List.set_cons_succ])
  refine wpAnyH_take (i := 6) (oi := ⟨some 11, _, _, _, _, _⟩) (v := .pointer (some ⟨w.heap.size, 0, none⟩)) rfl (by kernel_rfl) (by kernel_rfl) (by kernel_rfl) (fun _ _ _ h => h) (Or.inl ⟨by rfl, fun w' hS => by go_simp; (try (with_reducible rfl))⟩) ⟨RT.out.up hb0, trivial⟩ ?_
  (try simp only [Act.put, List.setIfInBounds_toArray, List.set_cons_zero, List.set_cons_succ])
  refine wpAnyH_take (i := 7) (oi := ⟨some 12, _, _, _, _, _⟩) (v := .pointer (some ⟨w.heap.size, 2, none⟩)) rfl (by kernel_rfl) (by kernel_rfl) (by kernel_rfl) (fun _ _ _ h => h) (Or.inl ⟨by rfl, fun w' hS => by go_simp; (try (with_reducible rfl))⟩) ⟨RT.out.up hb0, trivial⟩ ?_
  (try simp only [Act.put, List.setIfInBounds_toArray, List.set_cons_zero, List.set_cons_succ])
  refine wpAnyH_take (i := 8) (oi := ⟨some 13, _, _, _, _, _⟩) (v := .int .i64 t) rfl (by kernel_rfl) (by kernel_rfl) (by kernel_rfl) (fun _ _ _ h => h) (Or.inl ⟨by rfl, fun w' hS => by have e0 : w'.cell? ⟨w.heap.size, 2, none⟩ = some (.int .i64 t) := hS.1.cell (i := 2) rfl; go_simp; (try (with_reducible rfl))⟩) ⟨RT.out.up hb0, trivial⟩ ?_
  (try simp only [Act.put, List.setIfInBounds_toArray, List.set_cons_zero, List.set_cons_succ])
  refine wpAnyH_ready (rs := [2]) (by kernel_rfl) (by simp) (AllReadyH.cons (o := ⟨some 7, _, _, _, _, _⟩) rfl (fun K hK => ?_) AllReadyH.nil)
  rw [if_pos (by rfl)]
  go_simp
  refine (HAT.out _ (hb0)).mono ?_
  rintro e u1 ⟨⟨V, he, hroot⟩, hc1⟩
  subst he
  obtain ⟨v1, rfl, hrow1⟩ := hroot
  have hb1 := hb0.trans (hc1.mono hb0.size)
  (try go_wp2_with fail)
  refine hK.out _ _ ⟨RT.out.up hb1, trivial⟩ (fun _ => ?_)
  clear hK K
  (try simp only [Act.put, List.setIfInBounds_toArray, List.set_cons_zero, List.set_cons_succ])
  obtain ⟨bA, capA, rfl, hcA, hmA, hfA⟩ := hrow1.form
  have HR1 := Lib.hid hrow1
  clear hrow1 hfA
  refine wpAnyH_ready (rs := [9]) (by kernel_rfl) (by simp) (AllReadyH.cons (o := ⟨some 14, _, _, _, _, _⟩) rfl (fun K hK => ?_) AllReadyH.nil)
  rw [if_pos (by rfl)]
  go_simp
  refine (HFA.out _).mono ?_
  rintro e u2 ⟨⟨V, he, hroot⟩, hc2⟩
  subst he
  obtain ⟨v2, rfl, hrow2⟩ := hroot
  have hb2 := hb1.trans (hc2.mono hb1.size)
  have HR1b := Lib.hid (HR1.out.up hc2)
  (try go_wp2_with fail)
  refine hK.out _ _ ⟨RT.out.up hb2, trivial⟩ (fun _ => ?_)
  clear hK K
  (try simp only [Act.put, List.setIfInBounds_toArray, List.set_cons_zero, List.set_cons_succ])
  obtain ⟨eA, capE, rfl, hcE, hmE, hfE⟩ := hrow2.form
  have HR2 := Lib.hid hrow2
  clear hrow2 hfE
  refine wpAnyH_ready (rs := [10]) (by kernel_rfl) (by simp) (AllReadyH.cons (o := ⟨some 15, _, _, _, _, _⟩) rfl (fun K hK => ?_) AllReadyH.nil)
  rw [if_pos (by rfl)]
  go_simp
  (try go_wp2_with fail)
  have hb3 := hb2.alloc hb2.size (.cells #[.slice bA L1.length capA, .int .i64 d1, .slice eA (fastL t0 t).length capE, .int .i64 2] 113)
  refine hK.out _ _ ⟨RT.out.up hb3, trivial⟩ (fun _ => ?_)
  clear hK K
  (try simp only [Act.put, List.setIfInBounds_toArray, List.set_cons_zero, List.set_cons_succ])
  refine wpAnyH_ready (rs := [11]) (by kernel_rfl) (by simp) (AllReadyH.cons (o := ⟨some 16, _, _, _, _, _⟩) rfl (fun K hK => ?_) AllReadyH.nil)
  rw [if_pos (by rfl)]
  go_simp
  have hg := heap_alloc_new u2 (.cells #[.slice bA L1.length capA, .int .i64 d1, .slice eA (fastL t0 t).length capE, .int .i64 2] 113)
  have hbu := belA u2 (.cells #[.slice bA L1.length capA, .int .i64 d1, .slice eA (fastL t0 t).length capE, .int .i64 2] 113)
  refine (product2 u2.heap.size 2 bA capA L1 d1 eA capE (fastL t0 t) 2 _ (by simp) (Go.Joins.cell_of_block hg 0) (Go.Joins.cell_of_block hg 1) (Go.Joins.cell_of_block hg 2) (Go.Joins.cell_of_block hg 3) (HR1b.out.up hbu).tmc (HR2.out.up hbu).tmc hL1 (by simp [fastL]) hB1 HBF.out hd1 hd2 (by omega) (by omega)).mono ?_
  rintro e u3 ⟨⟨V, he, hroot⟩, hc3⟩
  subst he
  obtain ⟨v3, rfl, hrow3⟩ := hroot
  have hb4 := hb3.trans (hc3.mono hb3.size)
  (try go_wp2_with fail)
  refine hK.out _ _ ⟨RT.out.up hb4, trivial⟩ (fun _ => ?_)
  clear hK K
  (try simp only [Act.put, List.setIfInBounds_toArray, List.set_cons_zero, List.set_cons_succ])
  obtain ⟨zA, zcap, rfl, hzc, hzm, hzf⟩ := hrow3.form
  have HR3 := Lib.hid hrow3
  have r3 := RR.out.up hb4
  have c20 := RowV.c0 r3
  have c21 := RowV.c1 r3
  have z20 := RowV.z (i := 0) r3
  have z21 := RowV.z (i := 1) r3
  have bw := RB.out.trans (hb4.mono RB.out.size)
  have hs2 := hb2.size
  clear hrow3 r3
  refine wpAnyH_ready (rs := [12]) (by kernel_rfl) (by simp) (AllReadyH.cons (o := ⟨none, _, _, _, _, _⟩) rfl (fun K hK => ?_) AllReadyH.nil)
  rw [if_pos (by rfl)]
  go_simp
  refine hK.out _ _ ⟨RowV.far (RowV.far (RT.out.up hb4) (by omega)) (by omega), trivial⟩ (fun _ => ?_)
  clear hK K
  (try simp only [Act.put, List.setIfInBounds_toArray, List.set_cons_zero, List.set_cons_succ])
  refine wpAnyH_done (by kernel_rfl) ?_ _
  refine NoPanic.normal ?_
  go_wp2
  refine bodyPost_ret (v := .agg #[.slice zA (scL 2 L1 ++ scL d1 (fastL t0 t)).length zcap, .int .i64 (d1 * 2)]) (results_one rfl rfl (load_root2 ?_ ?_)) rfl ⟨⟨_, rfl, _, rfl, RowT.low (B := (u2.alloc (.cells #[.slice bA L1.length capA, .int .i64 d1, .slice eA (fastL t0 t).length capE, .int .i64 2] 113)).heap.size) (HR3.out.keep fun k hk => ?_) ?_⟩, (bw.setCell (by show w.heap.size ≤ w.heap.size + 1; omega) _).setCell (by show w.heap.size ≤ w.heap.size + 1; omega) _⟩
  · rw [World.cell?_setCell_other _ _ _ _ (by simp), World.cell?_setCell_same _ _ _ c20]
    simp only [List.length_append]
  · exact World.cell?_setCell_same _ _ _ ((World.cell?_setCell_other _ _ _ _ (by simp)).trans c21)
  · have hk2 : k ≠ w.heap.size + 1 := by
      rcases hzf with ⟨rfl, -, -⟩ | ⟨g2, rfl, hg2, -, -⟩
      · cases hk
      · have e2 : g2 = k := Option.some.inj hk
        rw [World.size_alloc] at hg2
        omega
    exact (setCell_heap hk2).trans (setCell_heap hk2)
  · rw [World.size_alloc]
    omega
end Go.Proofs.YtmbcejldifobnaaDoor.Pc

namespace Go.Proofs.YtmbcejldifobnaaDoor.Pc
open Go.RowKit Tp
def SoP (w : World) (F : Int → Int) (e : Ending) (w' : World) : Prop := ∃ m k, SpanIs F m k ∧ e = .returned (.tuple #[.agg #[.int .i64 m, .int .i64 k], .int .i64 0]) ∧ Below w.heap.size w w'
set_option maxRecDepth 100000 in
set_option maxHeartbeats 2000000 in
theorem spanOf_freq (a t0 t : Int) (T : Tm) (D : Int) (wn n S : Nat) (L : List Rt → List (Nat × Int)) (dd : List Rt → Int) (w : World) (hp : PrL w) (hst : stdE a t0 t = 0) (hl : T.ps.length = 12) (hs : T.nm.size ≤ maxLen) (hk : chkT T = 0) (hv : Vd T D wn) (hn : n ≤ 139) (hS1 : 1 ≤ S) (hS2 : S ≤ 1000000000000)
    (hf : ∀ N g W, NotesL D (fN T D) wn 12 N → RowV W g 98 (fl7 N) → PrL W → Calls Tryd.prog 67 #[.agg (TunV a t0 t g).toArray, .int .i64 (n : Int)] W fun e w' => (∃ V, e = .returned V ∧ RootV w' W.heap.size V (L N) (dd N)) ∧ Below W.heap.size W w')
    (hL : ∀ N, NotesL D (fN T D) wn 12 N → validL (L N) ∧ 1 ≤ dd N ∧ dd N ≤ 1000000 ∧ PwF (L N) (dd N) S 1000000000001 < 0) :
    Calls Tryd.prog 66 #[.agg #[.int .i64 a, .int .i64 t0, .int .i64 t], .agg (tmV T).toArray, .int .i64 (n : Int), .int .i64 (S : Int), .func (.func 67) #[] #[]] w fun e w' => ∃ N, NotesL D (fN T D) wn 12 N ∧ SoP w (PwF (L N) (dd N) S) e w' := by
  have htu := fun W (h : PrL W) => tune_ok a t0 t T D wn W h hst hl hs hk hv
  have hin := fun W => isNote_any (n : Int) W
  have hnb : noteB (n : Int) = true := noteB_iff.2 ⟨by omega, by omega⟩
  rw [hnb] at hin
  have HTU := Lib.hid htu
  have HIN := Lib.hid hin
  have HF := Lib.hid hf
  have HL := Lib.hid hL
  have HPR := Lib.hid hp
  have HI2 := Lib.hid (szT hl)
  have r1 : RowV ((w.alloc (.cells #[.int .i64 a, .int .i64 t0, .int .i64 t] 50)).alloc (.cells (tmV T).toArray 38)) (w.heap.size + 1) 38 (tmV T) := by
    have h := RowV.of_alloc (w.alloc (.cells #[.int .i64 a, .int .i64 t0, .int .i64 t] 50)) 38 (tmV T)
    rw [World.size_alloc] at h
    exact h
  have r2 : RowV (((w.alloc (.cells #[.int .i64 a, .int .i64 t0, .int .i64 t] 50)).alloc (.cells (tmV T).toArray 38)).alloc (.cells #[.int .i64 0, .int .i64 0] 55)) (w.heap.size + 1 + 1) 55 [.int .i64 0, .int .i64 0] := by
    have h := RowV.of_alloc ((w.alloc (.cells #[.int .i64 a, .int .i64 t0, .int .i64 t] 50)).alloc (.cells (tmV T).toArray 38)) 55 [.int .i64 0, .int .i64 0]
    rw [World.size_alloc, World.size_alloc] at h
    exact h
  have HB := Lib.hid (((belB w (.cells #[.int .i64 a, .int .i64 t0, .int .i64 t] 50)).alloc (by simp) (.cells (tmV T).toArray 38)).alloc (by simp; omega) (.cells #[.int .i64 0, .int .i64 0] 55))
  have HR2 := Lib.hid r2
  have HR1 := Lib.hid (r1.alloc (.cells #[.int .i64 0, .int .i64 0] 55))
  clear htu hin hf hL hp hst hl hs hk hv hnb r1 r2
  go_enter Tryd.func66, Tryd.ntmps66
  go_wp2_with ((show wpList _ _ _ (⟨_, .load _ _, _, _, _, _⟩ :: _) _ _); refine wpList_load_mid rfl 38 _ rfl (w.heap.size + 1) 0 rfl (tmV T) _ HR1.out.all Tryd.underlying38 rfl HI2.out ?_)
  refine (HTU.out _ (HPR.out.below HB.out)).mono ?_
  rintro e u1 ⟨N, g, hN, he, hg, hgb, hb1⟩
  subst he
  obtain ⟨hvl, hd1, hd2, hno⟩ := HL.out N hN
  have B1 := Lib.hid (HB.out.trans (hb1.mono HB.out.size))
  have R2 := Lib.hid (HR2.out.up hb1)
  have RG := Lib.hid (hg.alloc (.cells (TunV a t0 t g).toArray 109))
  have RT := Lib.hid (RowV.of_alloc u1 109 (TunV a t0 t g))
  have B2 := Lib.hid ((HB.out.trans (hb1.mono HB.out.size)).alloc (HB.out.trans (hb1.mono HB.out.size)).size (.cells (TunV a t0 t g).toArray 109))
  have R3 := Lib.hid ((HR2.out.up hb1).alloc (.cells (TunV a t0 t g).toArray 109))
  have HN := Lib.hid hN
  clear hb1 hg HB HR1 HR2 HTU hN HL
  rw [show (TunV a t0 t g).toArray = #[.int .i64 a, .int .i64 t0, .int .i64 t, .slice (some ⟨g, 0, none⟩) 12 12] from rfl]
  go_wp2_with fail
  refine (HIN.out _).mono ?_
  rintro e u2 ⟨he, hw⟩
  subst he
  subst hw
  go_wp2_with fail
  refine (HF.out N g _ HN.out RG.out (HPR.out.below B2.out)).mono ?_
  rintro e u3 ⟨⟨V, he, v, rfl, hrow⟩, hb3⟩
  subst he
  obtain ⟨bA, capA, rfl, hcA, hmA, hfA⟩ := hrow.form
  have hA0 : bA = none → capA = 0 := fun e => by
    rcases hfA with ⟨-, -, h⟩ | ⟨g2, h, -⟩
    · exact h
    · rw [e] at h; cases h
  have B3 := Lib.hid ((B2.out.trans (hb3.mono B2.out.size)).alloc (B2.out.trans (hb3.mono B2.out.size)).size (.cells #[.slice bA (L N).length capA, .int .i64 (dd N)] 113))
  have R4 := Lib.hid ((R3.out.up hb3).alloc (.cells #[.slice bA (L N).length capA, .int .i64 (dd N)] 113))
  have HTM := Lib.hid (hrow.up (belB u3 (.cells #[.slice bA (L N).length capA, .int .i64 (dd N)] 113))).tmc
  clear hrow hb3 hfA R3 RT RG B2 B1 R2 HF
  go_wp2_with fail
  refine (span_any bA capA (L N) (dd N) S _ HTM.out hA0 hvl hd1 hd2 hS1 hS2 hno).mono ?_
  rintro e u4 ⟨⟨m, k, he, hm⟩, hb4⟩
  subst he
  have r5 := R4.out.up hb4
  have c0 := RowV.c0 r5
  have c1 := RowV.c1 r5
  have z0 := RowV.z (i := 0) r5
  have z1 := RowV.z (i := 1) r5
  have B5 := Lib.hid (B3.out.trans (hb4.mono B3.out.size))
  have HM := Lib.hid hm
  clear r5 hb4 hm B3 R4 HTM
  go_wp2
  refine bodyPost_ret (v := .tuple #[.agg #[.int .i64 m, .int .i64 k], .int .i64 0]) (Tp.results_cell_tmp (a := 10) (b := 11) rfl rfl (load_iv ?_ ?_)) rfl ⟨N, HN.out, m, k, HM.out, rfl, (B5.out.setCell (by show w.heap.size ≤ w.heap.size + 1 + 1; omega) _).setCell (by show w.heap.size ≤ w.heap.size + 1 + 1; omega) _⟩
  · rw [World.cell?_setCell_other _ _ _ _ (by simp), World.cell?_setCell_same _ _ _ c0]
  · exact World.cell?_setCell_same _ _ _ ((World.cell?_setCell_other _ _ _ _ (by simp)).trans c1)
end Go.Proofs.YtmbcejldifobnaaDoor.Pc

namespace Go.Proofs.YtmbcejldifobnaaDoor
open Go.ChangeShapes Go.WideShapes Go.ChangeAt Go.RowKit Go.Deep
theorem own : ownKnob Tryd.prog.godebug = none := by kernel_rfl
theorem laidOut : laidOutB Tryd.prog = true := by kernel_rfl
def VR (P : Program) (w : World) (n : String) (d : DataW Unit) : Prop :=
  ∃ g t cs fuel p, P.globalNamed n = some g ∧ (P.globals[g]?).map (·.type) = some t ∧ w.var? P n = some cs ∧ DataW.trod (fun _ => ()) P w 0 (fun _ => true) false fuel t cs.toList = some (d, p)
theorem vr_of_vars {P : Program} {w : World} : ∀ {l : List (String × DataW Unit)} {ps : List MemPlace}, DataW.LaidVars P w l ps → ∀ n d, (n, d) ∈ l → VR P w n d
  | [], _, _, _, _, hm => by cases hm
  | (n', d') :: r, ps, h, n, d, hm => by
    obtain ⟨g, t, cs, fuel, p, q, h1, h2, h3, h4, h5, _⟩ := h
    rcases List.mem_cons.1 hm with e | e
    · cases e
      exact ⟨g, t, cs, fuel, p, h1, h2, h3, h4⟩
    · exact vr_of_vars h5 n d e
theorem vr_of_laid {P : Program} {w : World} {l : List (String × DataW Unit)} (h : laidMet P l w) {n : String} {d : DataW Unit} (hm : (n, d) ∈ l) : VR P w n d :=
  let ⟨_, hv, _⟩ := h
  vr_of_vars hv n d hm
theorem tab_of_vr {P : Program} {W : World} {name : String} {k : IntKind} {zs : List Int} {g : Nat} {t e : TypeId} {n : Nat}
    (hg : P.globalNamed name = some g) (hty : (P.globals[g]?).map (·.type) = some t) (ht : P.underlying t = some (.array n e)) (he : P.underlying e = some (.int k)) (hce : P.cellsOf e = 1) (hct : P.cellsOf t = n)
    (h : VR P W name (Lib.tabData k zs)) : Lib.TabIs P W name k zs := by
  obtain ⟨g', t', cs, fuel, p, hg', ht', hvar, hd⟩ := h
  obtain rfl := Option.some.inj (hg.symm.trans hg')
  obtain rfl := Option.some.inj (hty.symm.trans ht')
  unfold Lib.TabIs
  rw [hvar, ← Lib.cells_of_tab ht he hce hct hd]
theorem Tryd.gPr : Tryd.prog.globalNamed "quintadena/ratios.primes" = some 0 := by kernel_rfl
theorem Tryd.tPr : (Tryd.prog.globals[0]?).map (·.type) = some 89 := by kernel_rfl
theorem Tryd.c6Pr : Tryd.prog.cellsOf 89 = 6 := by kernel_rfl
theorem Tryd.c1I : Tryd.prog.cellsOf 2 = 1 := by kernel_rfl
theorem prData : (Rows.laid_quintadena_ratios_primes : DataW Unit) = Lib.tabData .i64 psI := by kernel_rfl
theorem pr_of_vr {W : World} (h : VR Tryd.prog W "quintadena/ratios.primes" Rows.laid_quintadena_ratios_primes) : PrL W := by
  rw [prData] at h
  have ht := tab_of_vr Tryd.gPr Tryd.tPr Tryd.underlying89 Tryd.underlying2 Tryd.c1I Tryd.c6Pr h
  unfold Lib.TabIs at ht
  have hc := fun i => World.var?_cell Tryd.gPr ht i
  have hcell : ∀ (i : Nat) (p : Int), psI[i]? = some p → W.cell? ⟨0, i, none⟩ = some (.int .i64 p) := fun i p hp => by
    rw [hc i]
    simp [hp]
  exact ⟨hcell, World.block_lt_of_cell? W _ (hcell 0 2 rfl)⟩
def layAt (h : Array Obj) (g : Nat) (cs : Array Value) : Array Obj :=
  h.modify g fun
    | .cells _ t frozen => .cells cs t frozen
    | o => o
/-- A world for the witness: the listed variable holds what its initialiser lays. -/
noncomputable def laidWorld (os : Os) : World :=
  let w0 := World.holding Tryd.prog os ⟨#[], #[], []⟩
  { w0 with heap := layAt w0.heap 0 #[.int .i64 2, .int .i64 3, .int .i64 5, .int .i64 7, .int .i64 11, .int .i64 13] }
/-- What lay below the heap's old size reads as it read, an argument at a time. -/
theorem args_stay {H : Type} {enc : TypeId × Value → H} {W W' : World} (hb : Below W.heap.size W W') (sp : Nat → Bool) :
    ∀ {ts : List TypeId} {vs : List Value} {ds : List (DataW H)} {ps : List MemPlace}, (∀ t ∈ ts, Tryd.prog.readableRec t = true ∧ t < Tryd.prog.types.size) →
    DataW.TrodAll enc Tryd.prog W 0 (fun _ => true) true ts vs ds ps → (∀ x ∈ ps, x.block < W.heap.size) → (∀ x ∈ ps, sp x.block = true) → DataW.TrodAll enc Tryd.prog W' 0 sp true ts vs ds ps
  | [], [], [], _, _, h, _, _ => h
  | [], [], _ :: _, _, _, h, _, _ => h
  | [], _ :: _, [], _, _, h, _, _ => h
  | [], _ :: _, _ :: _, _, _, h, _, _ => h
  | _ :: _, [], [], _, _, h, _, _ => h
  | _ :: _, [], _ :: _, _, _, h, _, _ => h
  | _ :: _, _ :: _, [], _, _, h, _, _ => h
  | t :: ts, v :: vs, d :: ds, ps, ht, h, hlt, hsp => by
    obtain ⟨p, p', h1, h2, rfl⟩ := h
    refine ⟨p, p', ?_, args_stay hb sp (fun t' ht' => ht t' (List.mem_cons_of_mem _ ht')) h2 (fun x hx => hlt x (List.mem_append_right _ hx)) (fun x hx => hsp x (List.mem_append_right _ hx)), rfl⟩
    exact WideElems.Trod_stays laidOut (ht t List.mem_cons_self).1 (ht t List.mem_cons_self).2 h1 (fun x hx => hb.same (hlt x (List.mem_append_left _ hx))) (fun x hx => hsp x (List.mem_append_left _ hx))
set_option maxRecDepth 100000 in
/-- A law's post from 'it returned true, and what lay below lies as it lay'. -/
theorem law_post {H : Type} {enc : TypeId × Value → H} {fn : Func} {s : ChangeSpec} {W W' : World} {args : Array Value} {ds : List (DataW H)} {before : List MemPlace}
    (hrt : fn.resultTypes = #[4]) (hread : ∀ t ∈ fn.params.toList, Tryd.prog.readableRec t = true ∧ t < Tryd.prog.types.size) (hsv : s.vars = [])
    (hfn : s.fn H ds = { results := [.lit (.bool true)], args := ds })
    (hW : DataW.Whole enc Tryd.prog fn.params.toList s.vars false W args.toList ds [] before) (hb : Below W.heap.size W W') :
    s.post enc Tryd.prog fn false true false false W args (.bool true) W' := by
  have hlt : ∀ p ∈ before, p.block < W.heap.size := fun p hp => hW.lt p hp
  obtain ⟨p, q, hA, hV, hpq, hz, hn⟩ := hW
  have hq : q = [] := by rw [hsv] at hV; exact (trodVars_none hV).2
  subst hq
  rw [List.append_nil] at hpq
  subst hpq
  have hres : ∀ (b : Nat) (sp : Nat → Bool) (hd : Bool), DataW.TrodAll enc Tryd.prog W' b sp hd fn.resultTypes.toList ((Value.bool true).resultList fn.resultTypes.size) (s.fn H (ds ++ [])).results [] := by
    intro b sp hd
    rw [List.append_nil, hfn, hrt]
    exact trodAll_mk1 (shut_bool Tryd.underlying4 true)
  have hargs : ∀ sp : Nat → Bool, (∀ x ∈ before, sp x.block = true) → DataW.TrodAll enc Tryd.prog W' 0 sp true fn.params.toList args.toList (s.fn H (ds ++ [])).args before := by
    intro sp hsp
    rw [List.append_nil, hfn]
    exact args_stay hb sp hread hA hlt hsp
  have hvars : ∀ sp : Nat → Bool, DataW.TrodVars enc Tryd.prog W' sp s.vars (s.fn H (ds ++ [])).vars [] := by
    intro sp
    rw [List.append_nil, hfn, hsv]
    exact rfl
  have hW0 : DataW.Whole enc Tryd.prog fn.params.toList s.vars false W args.toList ds [] before := ⟨before, [], hA, hV, by simp, hz, hn⟩
  refine ⟨ds, [], before, [], before, [], hW0, hres _ _ _, hargs _ (fun x hx => by simpa using hlt x hx), hvars _, World.keptBut_mono (fun x hx => ⟨hx, ?_⟩) (hb.frame (· ∈ before)), fun _ => ?_⟩
  · exact .inr (.inl hx)
  · refine ⟨ok_one hrt rfl (okWide_bool_mk Tryd.underlying4 _), _, _, ([] ++ before) ++ [], ⟨[] ++ before, [], trodAll_append (hargs _ (fun _ _ => rfl)) (hres _ _ _), hvars _, rfl, fun b off hp => ?_, fun ha => by cases ha⟩, fun x hx _ => by simpa using hx⟩
    have hin : MemPlace.cell b off ∈ before := by simpa using hp
    rw [hb.frozen (hlt _ hin)]
    exact hz b off hin
/-- An argument that is a temperament. -/
theorem open_part {H : Type} {enc : TypeId × Value → H} {w : World} {base n : Nat} {sp : Nat → Bool} {held : Bool} {a b : Value} {y : DataW H × List MemPlace} (h : DataW.trod enc Tryd.prog w base sp held n 35 [a, b] = some y) : ∃ x z : Int, a = .int .i64 x ∧ b = .int .i64 z := by
  have hI : Tryd.prog.cellsOf 3 = 1 := by kernel_rfl
  obtain ⟨y0, y1, m, -, -, f0, f1⟩ := trod_struct2 Tryd.underlying35 h
  simp [hI] at f0 f1
  obtain ⟨x, e0, -⟩ := DataW.trod_int Tryd.underlying3 f0
  obtain ⟨z, e1, -⟩ := DataW.trod_int Tryd.underlying3 f1
  try simp at e0 e1
  exact ⟨x, z, e0, e1⟩
set_option maxRecDepth 100000 in
set_option maxHeartbeats 2000000 in
theorem open_tm {H : Type} {enc : TypeId × Value → H} {w : World} {base fuel : Nat} {sp : Nat → Bool} {held : Bool} {y : DataW H × List MemPlace} {k0 k1 k2 k3 k4 k5 k6 k7 k8 k9 k10 k11 k12 k13 k14 k15 k16 k17 k18 k19 k20 k21 k22 k23 k24 k25 k26 : Value}
    (hf : DataW.trod enc Tryd.prog w base sp held fuel 38 [k0, k1, k2, k3, k4, k5, k6, k7, k8, k9, k10, k11, k12, k13, k14, k15, k16, k17, k18, k19, k20, k21, k22, k23, k24, k25, k26] = some y) :
    ∃ T : Tp.Tm, [k0, k1, k2, k3, k4, k5, k6, k7, k8, k9, k10, k11, k12, k13, k14, k15, k16, k17, k18, k19, k20, k21, k22, k23, k24, k25, k26] = Tp.tmV T ∧ T.ps.length = 12 ∧ T.nm.size ≤ maxLen := by
  have hS : Tryd.prog.cellsOf 9 = 1 := by kernel_rfl
  have hBo : Tryd.prog.cellsOf 4 = 1 := by kernel_rfl
  have hI : Tryd.prog.cellsOf 3 = 1 := by kernel_rfl
  have hA : Tryd.prog.cellsOf 36 = 24 := by kernel_rfl
  have hP : Tryd.prog.cellsOf 35 = 2 := by kernel_rfl
  obtain ⟨y0, y1, y2, y3, n', -, -, f0, f1, f2, f3⟩ := Go.Joins.trod_struct4 Tryd.underlying38 hf
  simp [hS, hBo, hI, hA] at f0 f1 f2 f3
  obtain ⟨nm, e0, -, hnm⟩ := DataW.trod_string Tryd.underlying9 f0
  obtain ⟨sy, e1, -⟩ := DataW.trod_bool Tryd.underlying4 f1
  obtain ⟨wo, e2, -⟩ := DataW.trod_int Tryd.underlying3 f2
  try simp at e0 e1 e2
  obtain ⟨zs, m0, -, -, -, hlz, hzf⟩ := Go.DataW.trod_array Tryd.underlying36 f3
  have g0 := hzf 0 (by omega)
  have g1 := hzf 1 (by omega)
  have g2 := hzf 2 (by omega)
  have g3 := hzf 3 (by omega)
  have g4 := hzf 4 (by omega)
  have g5 := hzf 5 (by omega)
  have g6 := hzf 6 (by omega)
  have g7 := hzf 7 (by omega)
  have g8 := hzf 8 (by omega)
  have g9 := hzf 9 (by omega)
  have g10 := hzf 10 (by omega)
  have g11 := hzf 11 (by omega)
  simp [hP] at g0 g1 g2 g3 g4 g5 g6 g7 g8 g9 g10 g11
  obtain ⟨z0, hz0⟩ : ∃ z, zs[0]? = some z := ⟨zs[0]'(by omega), List.getElem?_eq_getElem _⟩
  (first | rw [hz0] at g0 | skip)
  obtain ⟨n0, d0, p0, q0⟩ := open_part g0
  obtain ⟨z1, hz1⟩ : ∃ z, zs[1]? = some z := ⟨zs[1]'(by omega), List.getElem?_eq_getElem _⟩
  (first | rw [hz1] at g1 | skip)
  obtain ⟨n1, d1, p1, q1⟩ := open_part g1
  obtain ⟨z2, hz2⟩ : ∃ z, zs[2]? = some z := ⟨zs[2]'(by omega), List.getElem?_eq_getElem _⟩
  (first | rw [hz2] at g2 | skip)
  obtain ⟨n2, d2, p2, q2⟩ := open_part g2
  obtain ⟨z3, hz3⟩ : ∃ z, zs[3]? = some z := ⟨zs[3]'(by omega), List.getElem?_eq_getElem _⟩
  (first | rw [hz3] at g3 | skip)
  obtain ⟨n3, d3, p3, q3⟩ := open_part g3
  obtain ⟨z4, hz4⟩ : ∃ z, zs[4]? = some z := ⟨zs[4]'(by omega), List.getElem?_eq_getElem _⟩
  (first | rw [hz4] at g4 | skip)
  obtain ⟨n4, d4, p4, q4⟩ := open_part g4
  obtain ⟨z5, hz5⟩ : ∃ z, zs[5]? = some z := ⟨zs[5]'(by omega), List.getElem?_eq_getElem _⟩
  (first | rw [hz5] at g5 | skip)
  obtain ⟨n5, d5, p5, q5⟩ := open_part g5
  obtain ⟨z6, hz6⟩ : ∃ z, zs[6]? = some z := ⟨zs[6]'(by omega), List.getElem?_eq_getElem _⟩
  (first | rw [hz6] at g6 | skip)
  obtain ⟨n6, d6, p6, q6⟩ := open_part g6
  obtain ⟨z7, hz7⟩ : ∃ z, zs[7]? = some z := ⟨zs[7]'(by omega), List.getElem?_eq_getElem _⟩
  (first | rw [hz7] at g7 | skip)
  obtain ⟨n7, d7, p7, q7⟩ := open_part g7
  obtain ⟨z8, hz8⟩ : ∃ z, zs[8]? = some z := ⟨zs[8]'(by omega), List.getElem?_eq_getElem _⟩
  (first | rw [hz8] at g8 | skip)
  obtain ⟨n8, d8, p8, q8⟩ := open_part g8
  obtain ⟨z9, hz9⟩ : ∃ z, zs[9]? = some z := ⟨zs[9]'(by omega), List.getElem?_eq_getElem _⟩
  (first | rw [hz9] at g9 | skip)
  obtain ⟨n9, d9, p9, q9⟩ := open_part g9
  obtain ⟨z10, hz10⟩ : ∃ z, zs[10]? = some z := ⟨zs[10]'(by omega), List.getElem?_eq_getElem _⟩
  (first | rw [hz10] at g10 | skip)
  obtain ⟨n10, d10, p10, q10⟩ := open_part g10
  obtain ⟨z11, hz11⟩ : ∃ z, zs[11]? = some z := ⟨zs[11]'(by omega), List.getElem?_eq_getElem _⟩
  (first | rw [hz11] at g11 | skip)
  obtain ⟨n11, d11, p11, q11⟩ := open_part g11
  subst e0 e1 e2 p0 q0 p1 q1 p2 q2 p3 q3 p4 q4 p5 q5 p6 q6 p7 q7 p8 q8 p9 q9 p10 q10 p11 q11
  exact ⟨⟨nm, sy, wo, [(n0, d0), (n1, d1), (n2, d2), (n3, d3), (n4, d4), (n5, d5), (n6, d6), (n7, d7), (n8, d8), (n9, d9), (n10, d10), (n11, d11)]⟩, rfl, rfl, hnm⟩
theorem list30 {cs : Array Value} (h : cs.size = 30) : ∃ a b c k0 k1 k2 k3 k4 k5 k6 k7 k8 k9 k10 k11 k12 k13 k14 k15 k16 k17 k18 k19 k20 k21 k22 k23 k24 k25 k26, cs = #[a, b, c, k0, k1, k2, k3, k4, k5, k6, k7, k8, k9, k10, k11, k12, k13, k14, k15, k16, k17, k18, k19, k20, k21, k22, k23, k24, k25, k26] := by
  obtain ⟨l⟩ := cs
  match l, h with
  | [a, b, c, k0, k1, k2, k3, k4, k5, k6, k7, k8, k9, k10, k11, k12, k13, k14, k15, k16, k17, k18, k19, k20, k21, k22, k23, k24, k25, k26], _ => exact ⟨a, b, c, k0, k1, k2, k3, k4, k5, k6, k7, k8, k9, k10, k11, k12, k13, k14, k15, k16, k17, k18, k19, k20, k21, k22, k23, k24, k25, k26, rfl⟩
set_option maxRecDepth 100000 in
set_option maxHeartbeats 2000000 in
/-- An argument that is a case: a standard and a temperament. -/
theorem open_case {H : Type} {enc : TypeId × Value → H} {w : World} {base : Nat} {sp : Nat → Bool} {held : Bool} {r : Reach} {b0 : Nat} {v : Value} {d : DataW H} {ps : List MemPlace}
    (hv : Value.okWide Tryd.prog w r b0 52 v) (h : DataW.Trod enc Tryd.prog w base sp held 52 v d ps) :
    ∃ (a t0 t : Int) (T : Tp.Tm), v = .agg (.int .i64 a :: .int .i64 t0 :: .int .i64 t :: Tp.tmV T).toArray ∧ T.ps.length = 12 ∧ T.nm.size ≤ maxLen := by
  obtain ⟨cs, rfl, hsz⟩ := okWide_struct Tryd.underlying52 hv
  have hC : Tryd.prog.cellsOf 52 = 30 := by kernel_rfl
  have hS3 : Tryd.prog.cellsOf 50 = 3 := by kernel_rfl
  have hT : Tryd.prog.cellsOf 38 = 27 := by kernel_rfl
  have hI : Tryd.prog.cellsOf 2 = 1 := by kernel_rfl
  obtain ⟨a, b, c, k0, k1, k2, k3, k4, k5, k6, k7, k8, k9, k10, k11, k12, k13, k14, k15, k16, k17, k18, k19, k20, k21, k22, k23, k24, k25, k26, rfl⟩ := list30 (hsz.trans hC)
  obtain ⟨fuel, hf⟩ := h
  obtain ⟨y0, y1, m, -, -, f0, f1⟩ := trod_struct2 Tryd.underlying52 hf
  simp [hS3, hT, Value.cells] at f0 f1
  obtain ⟨T, eT, hl, hs⟩ := open_tm f1
  obtain ⟨z0, z1, z2, m2, -, -, g0, g1, g2⟩ := Go.Deep.trod_struct3 Tryd.underlying50 f0
  simp [hI] at g0 g1 g2
  obtain ⟨i0, e0, -⟩ := DataW.trod_int Tryd.underlying2 g0
  obtain ⟨i1, e1, -⟩ := DataW.trod_int Tryd.underlying2 g1
  obtain ⟨i2, e2, -⟩ := DataW.trod_int Tryd.underlying2 g2
  try simp at e0 e1 e2
  subst e0 e1 e2
  exact ⟨i0, i1, i2, T, by rw [← eT], hl, hs⟩
end Go.Proofs.YtmbcejldifobnaaDoor
