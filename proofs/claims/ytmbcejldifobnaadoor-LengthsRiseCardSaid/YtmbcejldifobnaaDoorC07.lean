import Derived.Test.YtmbcejldifobnaaDoorC06
import Derived.Test.YtmbcejldifobnaaDoorRows
import Derived.Test.YtmbcejldifobnaaDoorC01
import Derived.WalkKit
import Derived.WalkSpells
import Derived.WalkLawsBesides
import Derived.OpenShut
import Derived.Lib.Hide
import Derived.Lib.SmallJoins
import Derived.BigQuiet
import Derived.Deep.QuietTactic
import Derived.Deep.RegionHeld3
import Derived.Deep.Draws
import Derived.IntWalk
import Derived.OrdersHeld
import Derived.Deep.RegionHeld
import Derived.Deep.MidRow
import Derived.LoopN
namespace Go.Proofs.YtmbcejldifobnaaDoor.Sp
theorem floor_of_trunc {x y : Int} (hy : 0 < y) : (if x.tmod y < 0 then x.tdiv y - 1 else x.tdiv y) = x / y := by
  rcases Int.le_total 0 x with hx | hx
  · rw [Int.tdiv_eq_ediv_of_nonneg hx, Int.tmod_eq_emod_of_nonneg hx, if_neg]
    have := Int.emod_nonneg x (Int.ne_of_gt hy)
    omega
  · have h := Int.tmod_add_mul_tdiv x y
    have h1 : x.tmod y ≤ 0 := by
      have := Int.tmod_nonneg y (show 0 ≤ -x by omega)
      rw [Int.neg_tmod] at this; omega
    have h2 : -y < x.tmod y := by
      have := Int.tmod_lt_of_pos (-x) hy
      rw [Int.neg_tmod] at this; omega
    generalize x.tmod y = r at *
    generalize x.tdiv y = q at *
    have key : ∀ q' r' : Int, r' + y * q' = x ∧ 0 ≤ r' ∧ r' < y → q' = x / y := fun q' r' hh => ((Int.ediv_emod_unique hy).2 hh).1.symm
    by_cases hr : r < 0
    · rw [if_pos hr]
      refine key (q - 1) (r + y) ⟨?_, by omega, by omega⟩
      rw [Int.mul_sub]; omega
    · rw [if_neg hr]
      exact key q r ⟨h, by omega, by omega⟩
theorem ediv_anti {a y z : Int} (ha : 0 ≤ a) (hy : 0 < y) (h : y ≤ z) : a / z ≤ a / y := by
  rw [Int.le_ediv_iff_mul_le hy]
  have h0 : 0 ≤ a / z := Int.ediv_nonneg ha (by omega)
  exact Int.le_trans (Int.mul_le_mul_of_nonneg_left h h0) (Int.ediv_mul_le a (by omega))
theorem ediv_mono_neg {a y z : Int} (ha : a < 0) (hy : 0 < y) (h : y ≤ z) : a / y ≤ a / z := by
  rw [Int.le_ediv_iff_mul_le (by omega)]
  have h0 : a / y ≤ 0 := by
    have : a / y < 0 := Int.ediv_neg_of_neg_of_pos ha hy
    omega
  exact Int.le_trans (Int.mul_le_mul_of_nonpos_left h0 h) (Int.ediv_mul_le a (by omega))
theorem ediv_between {a y b1 b2 : Int} (h0 : 0 < b1) (h1 : b1 ≤ y) (h2 : y ≤ b2) : min (a / b1) (a / b2) ≤ a / y ∧ a / y ≤ max (a / b1) (a / b2) := by
  rcases Int.lt_or_le a 0 with h | h
  · have := ediv_mono_neg h h0 h1
    have := ediv_mono_neg h (by omega) h2
    omega
  · have := ediv_anti h h0 h1
    have := ediv_anti h (by omega) h2
    omega
theorem ediv_le' {a y : Int} (h : 0 < y) : -a.natAbs ≤ a / y ∧ a / y ≤ a.natAbs := by
  have h1 := ediv_between (a := a) (b1 := 1) (y := y) (b2 := y) (by omega) (by omega) (Int.le_refl _)
  rcases Int.lt_or_le a 0 with h2 | h2
  · have h3 := ediv_mono_neg h2 (show (0 : Int) < 1 by omega) (show (1 : Int) ≤ y by omega)
    have : a / y < 0 := Int.ediv_neg_of_neg_of_pos h2 h
    rw [Int.ediv_one] at h3
    omega
  · have h3 := ediv_anti h2 (show (0 : Int) < 1 by omega) (show (1 : Int) ≤ y by omega)
    have := Int.ediv_nonneg h2 (show 0 ≤ y by omega)
    rw [Int.ediv_one] at h3
    omega
def negI (a : Int × Int) : Int × Int := (-a.2, -a.1)
def quotW (a b : Int × Int) : Int × Int := (min (a.1 / b.1) (a.1 / b.2), max (upI a.2 b.1) (upI a.2 b.2))
def divW (a b : Int × Int) : (Int × Int) × Int :=
  if b.1 ≤ 0 ∧ 0 ≤ b.2 then ((0, 0), 9) else if b.2 < 0 then (quotW (negI a) (negI b), 0) else (quotW a b, 0)
end Go.Proofs.YtmbcejldifobnaaDoor.Sp

namespace Go.Proofs.YtmbcejldifobnaaDoor.Sp
theorem spanW_ok {lo hi : Int} (h1 : okB lo = true) (h2 : okB hi = true) : spanW lo hi = ((lo, hi), 0) := by
  unfold spanW; rw [h1, h2]; rfl
theorem okB_of {n : Int} (h : -4611686018427387904 ≤ n ∧ n ≤ 4611686018427387904) : okB n = true := okB_iff.2 h

end Go.Proofs.YtmbcejldifobnaaDoor.Sp

namespace Go.Proofs.YtmbcejldifobnaaDoor.Sp
def scaleW (a : Int × Int) (num den : Int) : (Int × Int) × Int :=
  if 1 ≤ den ∧ okB den = true ∧ okB num = true then prodsW a (num, num) den else ((0, 0), 2)

def IsRoot (n r : Int) (k : Nat) : Prop := 0 ≤ r ∧ r ^ k ≤ n ∧ n < (r + 1) ^ k
end Go.Proofs.YtmbcejldifobnaaDoor.Sp

namespace Go.Proofs.YtmbcejldifobnaaDoor.Sp
open Go.RowKit
theorem ret_val {a b : Value} (h : a = b) : Ending.returned a = .returned b := by rw [h]
def ivV (a : Int × Int) : Value := .agg #[.int .i64 a.1, .int .i64 a.2]
def ivE (r : (Int × Int) × Int) : Value := .tuple #[ivV r.1, .int .i64 r.2]
def I64 (n : Int) : Prop := -9223372036854775808 ≤ n ∧ n ≤ 9223372036854775807
theorem below_alloc (w : World) (o : Obj) : Below w.heap.size w (w.alloc o) := (Below.refl _ _).alloc (Nat.le_refl _) _

theorem allowed_any (n : Int) (w : World) (_hn : I64 n) :
    Calls Tryd.prog 188 #[.int .i64 n] w fun e w' => e = .returned (.bool (okB n)) ∧ w = w' := by
  cases h1 : decide (-4611686018427387904 ≤ n)
  · cases h2 : decide (n ≤ 4611686018427387904)
    all_goals
      have h3 : okB n = false := by unfold okB; rw [h1, h2]; rfl
      rw [h3]
      go_enter Tryd.func188, Tryd.ntmps188
      go_wp2_with fail
      go_ret
      exact ⟨rfl, rfl⟩
  · cases h2 : decide (n ≤ 4611686018427387904)
    · have h3 : okB n = false := by unfold okB; rw [h1, h2]; rfl
      rw [h3]
      go_enter Tryd.func188, Tryd.ntmps188
      go_wp2_with fail
      go_ret
      exact ⟨rfl, rfl⟩
    · have h3 : okB n = true := by unfold okB; rw [h1, h2]; rfl
      rw [h3]
      go_enter Tryd.func188, Tryd.ntmps188
      go_wp2_with fail
      go_ret
      exact ⟨rfl, rfl⟩

set_option maxRecDepth 100000 in
theorem minus_any (a : Int × Int) (w : World) (h1 : okB a.1 = true) (h2 : okB a.2 = true) :
    Calls Tryd.prog 177 #[ivV a] w fun e w' => e = .returned (ivV (negI a)) ∧ Below w.heap.size w w' := by
  obtain ⟨x, y⟩ := a
  rw [okB_iff] at h1 h2
  simp only at h1 h2
  unfold ivV negI
  simp only
  go_enter Tryd.func177, Tryd.ntmps177
  go_wp2_with fail
  refine bodyPost_ret (v := .agg #[.int .i64 (-y), .int .i64 (-x)]) (by simp [results, Tryd.results177, go_sem]) rfl ⟨rfl, ?_⟩
  exact (below_alloc w _).trans ((below_alloc _ _).mono (below_alloc w _).size)
theorem below_alloc2 (w : World) (o o' : Obj) : Below w.heap.size w ((w.alloc o).alloc o') := (below_alloc w _).trans ((below_alloc _ _).mono (below_alloc w _).size)
theorem below_alloc3 (w : World) (o o' o'' : Obj) : Below w.heap.size w (((w.alloc o).alloc o').alloc o'') := (below_alloc2 w _ _).trans ((below_alloc _ _).mono (below_alloc2 w _ _).size)

theorem below_drewN (W : World) (n : Nat) : Below W.heap.size W (W.drewN n) := by
  induction n with
  | zero => exact Below.refl _ _
  | succ n ih => exact ih.drew
theorem wrap64_of {n : Int} (h : I64 n) : wrap64 n = n := by unfold I64 at h; unfold wrap64; omega
theorem sum_wrap {x y : Int} (h1 : okB x = true) (h2 : okB y = true) : okB (wrap64 (x + y)) = okB (x + y) ∧ I64 (wrap64 (x + y)) ∧ (okB (x + y) = true → wrap64 (x + y) = x + y) := by
  rw [okB_iff] at h1 h2
  by_cases h : x + y = 9223372036854775808
  · rw [h]; unfold I64 wrap64; decide
  · have : I64 (x + y) := by unfold I64; omega
    rw [wrap64_of this]
    exact ⟨rfl, this, fun _ => rfl⟩
theorem below_alloc3d (w : World) (o o' o'' : Obj) (n : Nat) : Below w.heap.size w ((((w.alloc o).alloc o').alloc o'').drewN n) := (below_alloc3 w o o' o'').trans ((below_drewN _ n).mono (below_alloc3 w o o' o'').size)
set_option maxRecDepth 100000 in
theorem sum_any (a b : Int × Int) (w : World) (h1 : okB a.1 = true) (h2 : okB a.2 = true) (h3 : okB b.1 = true) (h4 : okB b.2 = true) :
    Calls Tryd.prog 170 #[ivV a, ivV b] w fun e w' => e = .returned (ivE (spanW (a.1 + b.1) (a.2 + b.2))) ∧ Below w.heap.size w w' := by
  obtain ⟨x, y⟩ := a
  obtain ⟨z, u⟩ := b
  simp only at h1 h2 h3 h4
  obtain ⟨p1, p2, p3⟩ := sum_wrap h1 h3
  obtain ⟨q1, q2, q3⟩ := sum_wrap h2 h4
  have A1 := fun w => allowed_any (wrap64 (x + z)) w p2
  have A2 := fun w => allowed_any (wrap64 (y + u)) w q2
  rw [p1] at A1
  rw [q1] at A2
  have hno : okB (x + z) = false ∨ okB (y + u) = false → ivE (spanW (x + z) (y + u)) = .tuple #[.agg #[.int .i64 0, .int .i64 0], .int .i64 7] := by
    intro h
    unfold spanW
    rcases h with h | h <;> rw [h]
    · rfl
    · rw [Bool.and_false]; rfl
  have hyes : okB (x + z) = true → okB (y + u) = true → ivE (spanW (x + z) (y + u)) = .tuple #[.agg #[.int .i64 (wrap64 (x + z)), .int .i64 (wrap64 (y + u))], .int .i64 0] := by
    intro h h'
    rw [spanW_ok h h', p3 h, q3 h']; rfl
  clear p1 p2 p3 q1 q2 q3
  unfold ivV
  show Calls _ _ _ w fun e w' => e = .returned (ivE (spanW (x + z) (y + u))) ∧ _
  generalize ivE (spanW (x + z) (y + u)) = R at *
  obtain ⟨k1, hk1⟩ : ∃ k, k = okB (x + z) := ⟨_, rfl⟩
  obtain ⟨k2, hk2⟩ : ∃ k, k = okB (y + u) := ⟨_, rfl⟩
  rw [← hk1] at A1 hno hyes
  rw [← hk2] at A2 hno hyes
  have HA1 := Lib.hid A1
  have HA2 := Lib.hid A2
  clear hk1 hk2 h1 h2 h3 h4 A1 A2
  cases k1
  · obtain rfl := hno (.inl rfl)
    clear hno hyes
    go_enter Tryd.func170, Tryd.ntmps170
    go_wp2_with fail
    go_quiet (fail)
    go_wp2_with fail
    refine (HA1.out _).mono ?_
    rintro e w1 ⟨he, rfl⟩
    subst he
    go_wp2_with fail
    refine bodyPost_ret (v := .tuple #[.agg #[.int .i64 0, .int .i64 0], .int .i64 7]) (by simp [results, Tryd.results170, go_sem]) rfl ⟨rfl, ?_⟩
    exact ((below_alloc3d w _ _ _ nq).setCell (p := ⟨w.heap.size + 1 + 1, 0, none⟩) (Nat.le_add_right _ 2) _).setCell (p := ⟨w.heap.size + 1 + 1, 1, none⟩) (Nat.le_add_right _ 2) _
  · cases k2
    · obtain rfl := hno (.inr rfl)
      clear hno hyes
      go_enter Tryd.func170, Tryd.ntmps170
      go_wp2_with fail
      go_quiet (fail)
      go_wp2_with fail
      refine (HA1.out _).mono ?_
      rintro e w1 ⟨he, rfl⟩
      subst he
      go_wp2_with fail
      refine (HA2.out _).mono ?_
      rintro e w1 ⟨he, rfl⟩
      subst he
      go_wp2_with fail
      refine bodyPost_ret (v := .tuple #[.agg #[.int .i64 0, .int .i64 0], .int .i64 7]) (by simp [results, Tryd.results170, go_sem]) rfl ⟨rfl, ?_⟩
      exact ((below_alloc3d w _ _ _ nq).setCell (p := ⟨w.heap.size + 1 + 1, 0, none⟩) (Nat.le_add_right _ 2) _).setCell (p := ⟨w.heap.size + 1 + 1, 1, none⟩) (Nat.le_add_right _ 2) _
    · obtain rfl := hyes rfl rfl
      clear hno hyes
      go_enter Tryd.func170, Tryd.ntmps170
      go_wp2_with fail
      go_quiet (fail)
      go_wp2_with fail
      refine (HA1.out _).mono ?_
      rintro e w1 ⟨he, rfl⟩
      subst he
      go_wp2_with fail
      refine (HA2.out _).mono ?_
      rintro e w1 ⟨he, rfl⟩
      subst he
      go_wp2_with fail
      refine bodyPost_ret (v := .tuple #[.agg #[.int .i64 (wrap64 (x + z)), .int .i64 (wrap64 (y + u))], .int .i64 0]) (by simp [results, Tryd.results170, go_sem]) rfl ⟨rfl, ?_⟩
      exact ((below_alloc3d w _ _ _ nq).setCell (p := ⟨w.heap.size + 1 + 1, 0, none⟩) (Nat.le_add_right _ 2) _).setCell (p := ⟨w.heap.size + 1 + 1, 1, none⟩) (Nat.le_add_right _ 2) _
end Go.Proofs.YtmbcejldifobnaaDoor.Sp

namespace Go.Proofs.YtmbcejldifobnaaDoor.Sp
open Go.RowKit
theorem examI_bad {ls : List (Int × Int)} {k : Nat} {a : Int × Int} (h : ls[k]? = some a) (hl : (okB a.1 && okB a.2) = false) : examI ls = 7 := by
  unfold examI
  rw [if_neg]
  intro hh
  rw [List.all_eq_true] at hh
  have := hh a (List.mem_of_getElem? h)
  rw [hl] at this; cases this
theorem examI_fit {ls : List (Int × Int)} (h : ∀ (k : Nat) (a : Int × Int), k < ls.length → ls[k]? = some a → (okB a.1 && okB a.2) = true) : examI ls = if ls.all (fun a => decide (a.1 ≤ a.2)) then 0 else 2 := by
  unfold examI
  rw [if_pos]
  rw [List.all_eq_true]
  intro a ha
  obtain ⟨k, hk⟩ := List.mem_iff_getElem?.1 ha
  exact h k a (List.getElem?_eq_some_iff.1 hk).1 hk

def ExRel (w : World) (ls : List (Int × Int)) (P : Int × Int → Prop) (i : Value) (wr : World) : Prop := ∃ k : Nat, k ≤ ls.length ∧ i = .int .i64 (k : Int) ∧ (∀ (j : Nat) (l : Int × Int), j < k → ls[j]? = some l → P l) ∧ Below w.heap.size w wr

set_option maxRecDepth 100000 in
set_option maxHeartbeats 2000000 in
theorem examine_any (g cap : Nat) (ls : List (Int × Int)) (w : World) (hn : ls.length ≤ 1000) (hI : ∀ (i : Nat) a, ls[i]? = some a → I64 a.1 ∧ I64 a.2)
    (hcells : ∀ (i : Nat) a, ls[i]? = some a → w.cell? ⟨g, i * 2, none⟩ = some (.int .i64 a.1) ∧ w.cell? ⟨g, i * 2 + 1, none⟩ = some (.int .i64 a.2)) :
    Calls Tryd.prog 169 #[.slice (some ⟨g, 0, none⟩) ls.length cap] w fun e w' => e = .returned (.int .i64 (examI ls)) ∧ Below w.heap.size w w' := by
  have HG := Lib.hid hcells
  have HI := Lib.hid hI
  clear hcells hI
  go_enter Tryd.func169, Tryd.ntmps169
  go_wp2_with fail
  go_loopw [9] (fun i wr => ExRel w ls (fun a => (okB a.1 && okB a.2) = true) i wr) (fun i _ => ls.length - (intOf i).toNat)
  case atStart => exact ⟨0, Nat.zero_le _, rfl, (fun j l hj => by omega), Below.refl _ _⟩
  case round =>
    obtain ⟨k, hk, rfl, hno, hb⟩ := hrel
    by_cases hlt : k < ls.length
    · obtain ⟨a, h1⟩ : ∃ a, ls[k]? = some a := ⟨ls[k], List.getElem?_eq_getElem hlt⟩
      obtain ⟨c0, c1⟩ := HG.out k a h1
      obtain ⟨i0, i1⟩ := HI.out k a h1
      have c0 := cell_later hb c0
      have c1 := cell_later hb c1
      have hb2 := hb.trans ((below_alloc wr (.cells #[.int .i64 a.1, .int .i64 a.2] 55)).mono hb.size)
      have A1 := fun w => allowed_any a.1 w i0
      have A2 := fun w => allowed_any a.2 w i1
      have HA1 := Lib.hid A1
      have HA2 := Lib.hid A2
      have HB2 := Lib.hid hb2
      clear A1 A2 i0 i1 hb hb2
      have hklt : (k : Int) < (ls.length : Int) := by omega
      have hk0 : (0 : Int) ≤ (k : Int) := Int.natCast_nonneg _
      obtain ⟨b1, hb1⟩ : ∃ b, b = okB a.1 := ⟨_, rfl⟩
      obtain ⟨b2, hb2⟩ : ∃ b, b = okB a.2 := ⟨_, rfl⟩
      have hbad : (b1 && b2) = false → examI ls = 7 := fun h => examI_bad h1 (by rw [← hb1, ← hb2]; exact h)
      have hno' : (b1 && b2) = true → ∀ (j : Nat) (l' : Int × Int), j < k + 1 → ls[j]? = some l' → (okB l'.1 && okB l'.2) = true := by
        intro hh j l' hj hl'
        rcases Nat.lt_or_ge j k with h | h
        · exact hno j l' h hl'
        · have : j = k := by omega
          subst this
          rw [h1] at hl'
          cases hl'
          rw [← hb1, ← hb2]; exact hh
      rw [← hb1] at HA1
      rw [← hb2] at HA2
      clear hb1 hb2 hno h1
      have HBAD := Lib.hid hbad
      have HNO := Lib.hid hno'
      clear hbad hno'
      cases b1
      · have HEX := Lib.hid (HBAD.out rfl)
        clear HBAD HNO
        go_wp2_with fail
        refine (HA1.out _).mono ?_
        rintro e w1 ⟨he, rfl⟩
        subst he
        go_wp2_with fail
        go_ret
        exact ⟨by rw [HEX.out]; rfl, HB2.out⟩
      · cases b2
        · have HEX := Lib.hid (HBAD.out rfl)
          clear HBAD HNO
          go_wp2_with fail
          refine (HA1.out _).mono ?_
          rintro e w1 ⟨he, rfl⟩
          subst he
          go_wp2_with fail
          refine (HA2.out _).mono ?_
          rintro e w1 ⟨he, rfl⟩
          subst he
          go_wp2_with fail
          go_ret
          exact ⟨by rw [HEX.out]; rfl, HB2.out⟩
        · have HNO' := Lib.hid (HNO.out rfl)
          clear HBAD HNO
          go_wp2_with fail
          refine (HA1.out _).mono ?_
          rintro e w1 ⟨he, rfl⟩
          subst he
          go_wp2_with fail
          refine (HA2.out _).mono ?_
          rintro e w1 ⟨he, rfl⟩
          subst he
          go_wp2_with fail
          first
            | exact ⟨⟨k + 1, by omega, by first | rfl | go_num, HNO'.out, HB2.out⟩, by simp [intOf]; omega⟩
            | (go_roundw
               case rel => exact ⟨k + 1, by omega, by first | rfl | go_num, HNO'.out, HB2.out⟩
               case measure => simp [intOf]; omega)
    · obtain rfl : k = ls.length := by omega
      have hsh := examI_fit hno
      have HSH := Lib.hid hsh
      have HB := Lib.hid hb
      clear hsh hno hb
      go_wp2_with fail
      go_loopw [26] (fun i wr' => ExRel w ls (fun a => a.1 ≤ a.2) i wr') (fun i _ => ls.length - (intOf i).toNat)
      case atStart => exact ⟨0, Nat.zero_le _, rfl, (fun j l hj => by omega), HB.out⟩
      case round =>
        clear hk HB
        obtain ⟨k, hk, rfl, hno, hb⟩ := hrel
        by_cases hlt2 : k < ls.length
        · obtain ⟨a, h1⟩ : ∃ a, ls[k]? = some a := ⟨ls[k], List.getElem?_eq_getElem hlt2⟩
          obtain ⟨c0, c1⟩ := HG.out k a h1
          have c0 := cell_later hb c0
          have c1 := cell_later hb c1
          have hb2 := hb.trans ((below_alloc wr (.cells #[.int .i64 a.1, .int .i64 a.2] 55)).mono hb.size)
          have HB2 := Lib.hid hb2
          have hklt : (k : Int) < (ls.length : Int) := by omega
          have hk0 : (0 : Int) ≤ (k : Int) := Int.natCast_nonneg _
          clear hb hb2
          by_cases hle : a.1 ≤ a.2
          · have hno' : ∀ (j : Nat) (l' : Int × Int), j < k + 1 → ls[j]? = some l' → l'.1 ≤ l'.2 := by
              intro j l' hj hl'
              rcases Nat.lt_or_ge j k with h | h
              · exact hno j l' h hl'
              · have : j = k := by omega
                subst this
                rw [h1] at hl'
                cases hl'
                exact hle
            have HNO := Lib.hid hno'
            clear hno hno' h1
            go_wp2_with fail
            first
              | exact ⟨⟨k + 1, by omega, by first | rfl | go_num, HNO.out, HB2.out⟩, by simp [intOf]; omega⟩
              | (go_roundw
                 case rel => exact ⟨k + 1, by omega, by first | rfl | go_num, HNO.out, HB2.out⟩
                 case measure => simp [intOf]; omega)
          · have hall : ls.all (fun a => decide (a.1 ≤ a.2)) = false := by
              rw [List.all_eq_false]
              exact ⟨a, List.mem_of_getElem? h1, by simpa using hle⟩
            have hex := HSH.out
            rw [hall] at hex
            have HEX := Lib.hid hex
            have hgt : a.2 < a.1 := by omega
            clear hex hall hno h1 hle
            go_wp2_with fail
            go_ret
            exact ⟨by rw [HEX.out]; rfl, HB2.out⟩
        · obtain rfl : k = ls.length := by omega
          have hall : ls.all (fun a => decide (a.1 ≤ a.2)) = true := by
            rw [List.all_eq_true]
            intro l hl
            obtain ⟨j, hj⟩ := List.mem_iff_getElem?.1 hl
            exact decide_eq_true (hno j l (List.getElem?_eq_some_iff.1 hj).1 hj)
          have hex := HSH.out
          rw [hall] at hex
          have HEX := Lib.hid hex
          have HB := Lib.hid hb
          clear hex hall hno hb
          go_wp2_with fail
          go_ret
          exact ⟨by rw [HEX.out]; rfl, HB.out⟩

theorem examI_ok {ls : List (Int × Int)} (h : examI ls = 0) : ∀ a ∈ ls, okB a.1 = true ∧ okB a.2 = true ∧ a.1 ≤ a.2 := by
  unfold examI at h
  split at h
  · rename_i h1
    split at h
    · rename_i h2
      rw [List.all_eq_true] at h1 h2
      intro a ha
      have e1 := h1 a ha
      have e2 := h2 a ha
      rw [Bool.and_eq_true] at e1
      exact ⟨e1.1, e1.2, of_decide_eq_true e2⟩
    · cases h
  · cases h
theorem examI_of {ls : List (Int × Int)} (h : ∀ a ∈ ls, okB a.1 = true ∧ okB a.2 = true ∧ a.1 ≤ a.2) : examI ls = 0 := by
  unfold examI
  rw [if_pos, if_pos]
  · rw [List.all_eq_true]
    intro a ha
    exact decide_eq_true (h a ha).2.2
  · rw [List.all_eq_true]
    intro a ha
    rw [(h a ha).1, (h a ha).2.1]; rfl
theorem exam1 (a : Int × Int) (w : World) (ha : I64 a.1 ∧ I64 a.2) :
    Calls Tryd.prog 169 #[.slice (some ⟨w.heap.size, 0, none⟩) 1 1] (w.alloc (.cells #[.int .i64 a.1, .int .i64 a.2] 55)) fun e w' => e = .returned (.int .i64 (examI [a])) ∧ Below w.heap.size w w' := by
  refine (examine_any w.heap.size 1 [a] _ (by simp) ?_ ?_).mono fun e w' ⟨h1, h2⟩ => ⟨h1, (below_alloc w _).trans (h2.mono (below_alloc w _).size)⟩
  · intro i b hb
    match i, hb with
    | 0, hb => simp at hb; subst hb; exact ha
  · intro i b hb
    match i, hb with
    | 0, hb => simp at hb; subst hb; simp
theorem exam2 (a b : Int × Int) (w : World) (ha : I64 a.1 ∧ I64 a.2) (hb : I64 b.1 ∧ I64 b.2) :
    Calls Tryd.prog 169 #[.slice (some ⟨w.heap.size, 0, none⟩) 2 2] (w.alloc (.cells #[.int .i64 a.1, .int .i64 a.2, .int .i64 b.1, .int .i64 b.2] 55)) fun e w' => e = .returned (.int .i64 (examI [a, b])) ∧ Below w.heap.size w w' := by
  refine (examine_any w.heap.size 2 [a, b] _ (by simp) ?_ ?_).mono fun e w' ⟨h1, h2⟩ => ⟨h1, (below_alloc w _).trans (h2.mono (below_alloc w _).size)⟩
  · intro i c hc
    match i, hc with
    | 0, hc => simp at hc; subst hc; exact ha
    | 1, hc => simp at hc; subst hc; exact hb
  · intro i c hc
    match i, hc with
    | 0, hc => simp at hc; subst hc; simp
    | 1, hc => simp at hc; subst hc; simp

theorem Below.after {w W w' : World} (h : Below w.heap.size w W) (h' : Below W.heap.size W w') : Below w.heap.size w w' := h.trans (h'.mono h.size)
theorem exam1_at (a : Int × Int) (W : World) (n : Nat) (hn : W.heap.size = n) (ha : I64 a.1 ∧ I64 a.2) :
    Calls Tryd.prog 169 #[.slice (some ⟨n, 0, none⟩) 1 1] (W.alloc (.cells #[.int .i64 a.1, .int .i64 a.2] 55)) fun e w' => e = .returned (.int .i64 (examI [a])) ∧ Below W.heap.size W w' := by
  subst hn; exact exam1 a W ha
theorem exam2_at (a b : Int × Int) (W : World) (n : Nat) (hn : W.heap.size = n) (ha : I64 a.1 ∧ I64 a.2) (hb : I64 b.1 ∧ I64 b.2) :
    Calls Tryd.prog 169 #[.slice (some ⟨n, 0, none⟩) 2 2] (W.alloc (.cells #[.int .i64 a.1, .int .i64 a.2, .int .i64 b.1, .int .i64 b.2] 55)) fun e w' => e = .returned (.int .i64 (examI [a, b])) ∧ Below W.heap.size W w' := by
  subst hn; exact exam2 a b W ha hb

/-- A block of two cells that may be written. -/
structure Cell2 (w : World) (g : Nat) (x y : Value) : Prop where
  c0 : w.cell? ⟨g, 0, none⟩ = some x
  c1 : w.cell? ⟨g, 1, none⟩ = some y
  f0 : w.frozen? ⟨g, 0, none⟩ = false
  f1 : w.frozen? ⟨g, 1, none⟩ = false
  lt : g < w.heap.size
theorem Cell2.new (w : World) (x y : Value) (t : TypeId) : Cell2 (w.alloc (.cells #[x, y] t)) w.heap.size x y where
  c0 := by simp
  c1 := by simp
  f0 := by simp [World.frozen?, World.alloc, -World.alloc_eq]
  f1 := by simp [World.frozen?, World.alloc, -World.alloc_eq]
  lt := by simp
theorem Cell2.later {w w' : World} {g : Nat} {x y : Value} (h : Cell2 w g x y) (hb : Below w.heap.size w w') : Cell2 w' g x y where
  c0 := cell_later hb h.c0
  c1 := cell_later hb h.c1
  f0 := (hb.frozen (p := ⟨g, 0, none⟩) h.lt).trans h.f0
  f1 := (hb.frozen (p := ⟨g, 1, none⟩) h.lt).trans h.f1
  lt := Nat.lt_of_lt_of_le h.lt hb.size
theorem Cell2.alloc {w : World} {g : Nat} {x y : Value} (h : Cell2 w g x y) (o : Obj) : Cell2 (w.alloc o) g x y := h.later (below_alloc w o)
theorem Cell2.drewN {w : World} {g : Nat} {x y : Value} (h : Cell2 w g x y) (n : Nat) : Cell2 (w.drewN n) g x y := h.later (below_drewN w n)
theorem box3 {w w1 : World} {x y z u p q : Value} {s t r : TypeId} (hb : Below (((w.alloc (.cells #[x, y] s)).alloc (.cells #[z, u] t)).alloc (.cells #[p, q] r)).heap.size (((w.alloc (.cells #[x, y] s)).alloc (.cells #[z, u] t)).alloc (.cells #[p, q] r)) w1) :
    Cell2 w1 w.heap.size x y ∧ Cell2 w1 (w.heap.size + 1) z u ∧ Cell2 w1 (w.heap.size + 1 + 1) p q ∧ Below w.heap.size w w1 := by
  have e1 : (w.alloc (.cells #[x, y] s)).heap.size = w.heap.size + 1 := by simp
  have e2 : ((w.alloc (.cells #[x, y] s)).alloc (.cells #[z, u] t)).heap.size = w.heap.size + 1 + 1 := by simp
  have c2 := Cell2.new (w.alloc (.cells #[x, y] s)) z u t
  have c3 := Cell2.new ((w.alloc (.cells #[x, y] s)).alloc (.cells #[z, u] t)) p q r
  rw [e1] at c2
  rw [e2] at c3
  exact ⟨(((Cell2.new w x y s).alloc _).alloc _).later hb, (c2.alloc _).later hb, c3.later hb, Below.after (below_alloc3 w _ _ _) hb⟩
theorem box2 {w w1 : World} {x y p q : Value} {s r : TypeId} (hb : Below ((w.alloc (.cells #[x, y] s)).alloc (.cells #[p, q] r)).heap.size ((w.alloc (.cells #[x, y] s)).alloc (.cells #[p, q] r)) w1) :
    Cell2 w1 w.heap.size x y ∧ Cell2 w1 (w.heap.size + 1) p q ∧ Below w.heap.size w w1 := by
  have e1 : (w.alloc (.cells #[x, y] s)).heap.size = w.heap.size + 1 := by simp
  have c2 := Cell2.new (w.alloc (.cells #[x, y] s)) p q r
  rw [e1] at c2
  exact ⟨((Cell2.new w x y s).alloc _).later hb, c2.later hb, Below.after (below_alloc2 w _ _) hb⟩

theorem Cell2.setOther {w : World} {g r : Nat} {x y : Value} (h : Cell2 w g x y) (hne : g ≠ r) (i : Nat) (u : Value) : Cell2 (w.setCell ⟨r, i, none⟩ u) g x y where
  c0 := by rw [World.cell?_setCell_other _ _ _ _ (by intro e; injection e with e; exact hne e.symm)]; exact h.c0
  c1 := by rw [World.cell?_setCell_other _ _ _ _ (by intro e; injection e with e; exact hne e.symm)]; exact h.c1
  f0 := by rw [World.frozen?_setCell]; exact h.f0
  f1 := by rw [World.frozen?_setCell]; exact h.f1
  lt := by simpa [World.setCell] using h.lt
theorem Cell2.set {w : World} {g : Nat} {x y : Value} (h : Cell2 w g x y) (u v : Value) : Cell2 ((w.setCell ⟨g, 0, none⟩ u).setCell ⟨g, 1, none⟩ v) g u v where
  c0 := by
    rw [World.cell?_setCell_other _ _ _ _ (by simp)]
    exact World.cell?_setCell_same _ _ _ h.c0
  c1 := World.cell?_setCell_same _ _ _ (by rw [World.cell?_setCell_other _ _ _ _ (by simp)]; exact h.c1)
  f0 := by rw [World.frozen?_setCell, World.frozen?_setCell]; exact h.f0
  f1 := by rw [World.frozen?_setCell, World.frozen?_setCell]; exact h.f1
  lt := by simpa [World.setCell] using h.lt

/-- A call's frame: what it has boxed stays, the block of its result may turn. -/
structure Fm (w : World) (K : List (Nat × Value × Value)) (r : Nat) (w' : World) : Prop where
  keep : ∀ t ∈ K, Cell2 w' t.1 t.2.1 t.2.2
  ne : ∀ t ∈ K, t.1 ≠ r
  res : ∃ p q, Cell2 w' r p q
  bl : Below w.heap.size w w'
  hr : w.heap.size ≤ r
theorem Fm.later {w w' w'' : World} {K : List (Nat × Value × Value)} {r : Nat} (h : Fm w K r w') (hb : Below w'.heap.size w' w'') : Fm w K r w'' :=
  ⟨fun t ht => (h.keep t ht).later hb, h.ne, let ⟨p, q, e⟩ := h.res; ⟨p, q, e.later hb⟩, Below.after h.bl hb, h.hr⟩
theorem Fm.drewN {w w' : World} {K : List (Nat × Value × Value)} {r : Nat} (h : Fm w K r w') (n : Nat) : Fm w K r (w'.drewN n) := h.later (below_drewN w' n)
theorem Fm.drew {w w' : World} {K : List (Nat × Value × Value)} {r : Nat} (h : Fm w K r w') : Fm w K r w'.drew := h.later (below_drewN w' 1)
theorem Fm.alloc {w w' : World} {K : List (Nat × Value × Value)} {r : Nat} (h : Fm w K r w') (o : Obj) : Fm w K r (w'.alloc o) := h.later (below_alloc w' o)
theorem Fm.set {w w' : World} {K : List (Nat × Value × Value)} {r : Nat} (h : Fm w K r w') (u v : Value) : Fm w K r ((w'.setCell ⟨r, 0, none⟩ u).setCell ⟨r, 1, none⟩ v) :=
  ⟨fun t ht => ((h.keep t ht).setOther (h.ne t ht) 0 u).setOther (h.ne t ht) 1 v, h.ne, let ⟨_, _, e⟩ := h.res; ⟨u, v, e.set u v⟩, (h.bl.setCell (p := ⟨r, 0, none⟩) h.hr u).setCell (p := ⟨r, 1, none⟩) h.hr v, h.hr⟩
theorem Fm.k0 {w w' : World} {g : Nat} {x y : Value} {K : List (Nat × Value × Value)} {r : Nat} (h : Fm w ((g, x, y) :: K) r w') : Cell2 w' g x y := h.keep _ List.mem_cons_self
theorem Fm.k1 {w w' : World} {t : Nat × Value × Value} {g : Nat} {x y : Value} {K : List (Nat × Value × Value)} {r : Nat} (h : Fm w (t :: (g, x, y) :: K) r w') : Cell2 w' g x y := h.keep _ (List.mem_cons_of_mem _ List.mem_cons_self)
theorem Fm.of3 {w w1 : World} {x y z u p q : Value} {s t r : TypeId} (hb : Below (((w.alloc (.cells #[x, y] s)).alloc (.cells #[z, u] t)).alloc (.cells #[p, q] r)).heap.size (((w.alloc (.cells #[x, y] s)).alloc (.cells #[z, u] t)).alloc (.cells #[p, q] r)) w1) :
    Fm w [(w.heap.size, x, y), (w.heap.size + 1, z, u)] (w.heap.size + 1 + 1) w1 := by
  obtain ⟨h1, h2, h3, h4⟩ := box3 hb
  refine ⟨?_, ?_, ⟨p, q, h3⟩, h4, Nat.le_add_right _ 2⟩
  · intro t ht
    simp at ht
    rcases ht with rfl | rfl
    · exact h1
    · exact h2
  · intro t ht
    simp at ht
    rcases ht with rfl | rfl <;> simp only <;> omega
theorem Fm.of2 {w w1 : World} {x y p q : Value} {s r : TypeId} (hb : Below ((w.alloc (.cells #[x, y] s)).alloc (.cells #[p, q] r)).heap.size ((w.alloc (.cells #[x, y] s)).alloc (.cells #[p, q] r)) w1) :
    Fm w [(w.heap.size, x, y)] (w.heap.size + 1) w1 := by
  obtain ⟨h1, h3, h4⟩ := box2 hb
  refine ⟨?_, ?_, ⟨p, q, h3⟩, h4, Nat.le_add_right _ 1⟩
  · intro t ht
    simp at ht
    subst ht
    exact h1
  · intro t ht
    simp at ht
    subst ht
    simp only; omega
/-- A call's frame without a block for its result. -/
structure Km (w : World) (K : List (Nat × Value × Value)) (w' : World) : Prop where
  keep : ∀ t ∈ K, Cell2 w' t.1 t.2.1 t.2.2
  bl : Below w.heap.size w w'
theorem Km.later {w w' w'' : World} {K : List (Nat × Value × Value)} (h : Km w K w') (hb : Below w'.heap.size w' w'') : Km w K w'' := ⟨fun t ht => (h.keep t ht).later hb, Below.after h.bl hb⟩
theorem Km.drew {w w' : World} {K : List (Nat × Value × Value)} (h : Km w K w') : Km w K w'.drew := h.later (below_drewN w' 1)
theorem Km.k0 {w w' : World} {g : Nat} {x y : Value} {K : List (Nat × Value × Value)} (h : Km w ((g, x, y) :: K) w') : Cell2 w' g x y := h.keep _ List.mem_cons_self
theorem Km.k1 {w w' : World} {t : Nat × Value × Value} {g : Nat} {x y : Value} {K : List (Nat × Value × Value)} (h : Km w (t :: (g, x, y) :: K) w') : Cell2 w' g x y := h.keep _ (List.mem_cons_of_mem _ List.mem_cons_self)
theorem Km.new1 (w : World) (x y : Value) (t : TypeId) : Km w [(w.heap.size, x, y)] (w.alloc (.cells #[x, y] t)) :=
  ⟨fun s hs => by simp at hs; subst hs; exact Cell2.new w x y t, below_alloc w _⟩
theorem Below.set2 {w w' : World} (h : Below w.heap.size w w') (g : Nat) (hg : w.heap.size ≤ g) (u v : Value) : Below w.heap.size w ((w'.setCell ⟨g, 0, none⟩ u).setCell ⟨g, 1, none⟩ v) :=
  (h.setCell (p := ⟨g, 0, none⟩) hg u).setCell (p := ⟨g, 1, none⟩) hg v
end Go.Proofs.YtmbcejldifobnaaDoor.Sp

namespace Go.Proofs.YtmbcejldifobnaaDoor.Sp
open Go.RowKit
section
variable {P : Program} {ops : Array Oper} {Q : Exit → Act → World → Prop} {md : Region.Mode} {S : World → Prop}
def Ext (S : World → Prop) (w w' : World) : Prop := Below w.heap.size w w' ∧ S w'
theorem Ext.trans {w w' w'' : World} (h : Ext S w w') (h' : Ext S w' w'') : Ext S w w'' := ⟨Below.after h.1 h'.1, h'.2⟩
theorem Ext.refl {w : World} (h : S w) : Ext S w w := ⟨Below.refl _ _, h⟩

/-- Whatever order is picked, and whatever memory calls add between the operations. -/
def wpE (P : Program) (md : Region.Mode) (ops : Array Oper) (Q : Exit → Act → World → Prop) (S : World → Prop) : Nat → Array Bool → Act → World → Prop
  | 0, listed, a, w => ∀ w', Ext S w w' → (Region.ready md ops listed = [] ∧ Q .normal a w')
  | n + 1, listed, a, w => ∀ w', Ext S w w' → ((Region.ready md ops listed = [] → Q .normal a w') ∧
      ∀ i ∈ Region.ready md ops listed, wpOp P ops Q i (fun b u => S u ∧ wpE P md ops Q S n (listed.setIfInBounds i true) b u) a w')
theorem wpE_up {w w' : World} (hx : Ext S w w') : ∀ {n : Nat} {listed : Array Bool} {a : Act}, wpE P md ops Q S n listed a w → wpE P md ops Q S n listed a w'
  | 0, _, _, h => fun u hu => h u (hx.trans hu)
  | _ + 1, _, _, h => fun u hu => h u (hx.trans hu)
theorem held_of_E : ∀ (n : Nat) (listed : Array Bool) (a : Act) (w : World), S w → wpE P md ops Q S n listed a w → wpAnyH P md ops Q S n listed a w
  | 0, _, _, w, hS, h => h w (Ext.refl hS)
  | n + 1, _, _, w, hS, h => ⟨(h w (Ext.refl hS)).1, fun i hi => wpOp_mono (fun b u hb => ⟨hb.1, held_of_E n _ b u hb.1 hb.2⟩) ((h w (Ext.refl hS)).2 i hi)⟩

/-- The operation is a call that in every world that meets S returns v and adds memory; or it yields v there at once. -/
def CallsTo (P : Program) (ops : Array Oper) (S : World → Prop) (o : Oper) (v : Value) (a : Act) : Prop :=
  Region.wanted o (yielded ops a.tmps) = true ∧ ((∃ f args, (∀ w, (execOp a.eval o).run P w = .ok (.enter f args) w) ∧ ∀ w, S w → Calls P f args w fun e w' => e = .returned v ∧ Ext S w w') ∨ ∀ w, S w → (execOp a.eval o).run P w = .ok (.value v) w)
/-- Or its guard passes it over, and it leaves nothing. -/
def Takes (P : Program) (ops : Array Oper) (S : World → Prop) (o : Oper) (v : Value) (a : Act) : Prop := CallsTo P ops S o v a ∨ (Region.wanted o (yielded ops a.tmps) = false ∧ v = undef)
theorem Takes.same {o : Oper} {v : Value} {a b : Act} (h : Takes P ops S o v a) (he : execOp b.eval o = execOp a.eval o) (hw : Region.wanted o (yielded ops b.tmps) = Region.wanted o (yielded ops a.tmps)) : Takes P ops S o v b := by
  unfold Takes CallsTo at *
  rw [he, hw]
  exact h
theorem Takes.step {i : Nat} {o : Oper} {v : Value} {a : Act} {w : World} {K : Act → World → Prop} (hi : ops[i]? = some o) (h : Takes P ops S o v a) (hS : S w) (hK : ∀ u, Ext S w u → K (a.put o.dst v) u) : wpOp P ops Q i K a w := by
  rcases h with ⟨hw, h⟩ | ⟨hw, rfl⟩
  · unfold wpOp
    simp only [hi, hw, if_true]
    left
    unfold Oper.wp
    rcases h with ⟨f, args, he, hc⟩ | hv
    · rw [he w, Oper.upon_enter]
      refine (hc w hS).mono ?_
      rintro e u ⟨rfl, hu⟩
      exact hK u hu
    · rw [hv w hS, Oper.upon_value]
      exact hK w (Ext.refl hS)
  · unfold wpOp
    simp only [hi, hw, Bool.false_eq_true, if_false]
    exact hK w (Ext.refl hS)
/-- An operation that is apart from it does not see whether it has come up. -/
theorem step_past {j : Nat} {oi oj : Oper} {v : Value} (hj : ops[j]? = some oj) (hap : oi.apart ops oj = true) (hsi : ∀ cs b, oi.op ≠ .select cs b) (hsj : ∀ cs b, oj.op ≠ .select cs b)
    (hQ : ∀ c a w, Q (.panic c) (a.put oi.dst v) w → Q (.panic c) a w) {K : Act → World → Prop} {a : Act} {w : World} (hy : Takes P ops S oi v a)
    (h : wpOp P ops Q j K (a.put oi.dst v) w) : wpOp P ops Q j (fun b u => Takes P ops S oi v b ∧ K (b.put oi.dst v) u) a w := by
  obtain ⟨p1, p2, p3⟩ := Oper.apart_spec hap
  have stay : ∀ b : Act, Takes P ops S oi v b → ∀ u, Takes P ops S oi v (b.put oj.dst u) := fun b hb u => hb.same (execOp_put oi hsi b oj.dst u p3) (wanted_put oi b oj.dst u p3)
  have swap : ∀ (b : Act) (u : Value), (b.put oi.dst v).put oj.dst u = (b.put oj.dst u).put oi.dst v := fun b u => Act.put_comm b v u p2
  unfold wpOp at *
  simp only [hj] at *
  rw [wanted_put oj a oi.dst v p1] at h
  by_cases hwd : Region.wanted oj (yielded ops a.tmps) = true
  · rw [if_pos hwd] at h ⊢
    rcases h with h | ⟨h1, h2⟩
    · left
      unfold Oper.wp at *
      rw [execOp_put oj hsj a oi.dst v p1] at h
      generalize (execOp a.eval oj).run P w = res at *
      rcases res with ⟨nx, u⟩ | ⟨hl, u⟩
      · cases nx with
        | value z => rw [Oper.upon_value] at h ⊢; rw [swap] at h; exact ⟨stay a hy z, h⟩
        | skip => rw [Oper.upon_skip] at h ⊢; rw [swap] at h; exact ⟨stay a hy undef, h⟩
        | defer d =>
          rw [Oper.upon_defer] at h ⊢
          rw [Act.put_defers, swap] at h
          exact ⟨stay { a with defers := d :: a.defers } (hy.same rfl rfl) undef, h⟩
        | enter f args =>
          rw [Oper.upon_enter] at h ⊢
          refine Calls.mono h fun e t he => ?_
          cases e with
          | returned z => simp only at he ⊢; rw [swap] at he; exact ⟨stay a hy z, he⟩
          | panicked c => exact hQ _ _ _ he
          | outgrown => exact he
        | row r args =>
          rw [Oper.upon_row] at h ⊢
          exact Rows.mono h fun z t ht => by rw [swap] at ht; exact ⟨stay a hy z, ht⟩
        | _ => exact absurd h (by simp [Oper.upon])
      · cases hl with
        | panic z => rw [Oper.upon_panic] at h ⊢; exact hQ _ _ _ h
        | _ => exact absurd h (by simp [Oper.upon])
    · right
      refine ⟨?_, h2⟩
      unfold Oper.asks at *
      rwa [execOp_put oj hsj a oi.dst v p1] at h1
  · rw [if_neg hwd] at h ⊢
    rw [swap] at h
    exact ⟨stay a hy undef, h⟩

/-- **A call that only adds memory may come up first.** -/
theorem call_first {i : Nat} {oi : Oper} {v : Value} (hi : ops[i]? = some oi) (hsel : ∀ (j : Nat) (o : Oper) cs b, ops[j]? = some o → o.op ≠ .select cs b) (hQ : ∀ c a w, Q (.panic c) (a.put oi.dst v) w → Q (.panic c) a w) :
    ∀ (n : Nat) (listed : Array Bool) (a : Act) (w : World),
      (∀ j oj, ops[j]? = some oj → j ≠ i → listed.getD j true = false → (∀ e ∈ oj.after, Region.binds md e = true → e.on ≠ i) → oi.apart ops oj = true) →
      i ∈ Region.ready md ops listed → Takes P ops S oi v a →
      wpE P md ops Q S n (listed.setIfInBounds i true) (a.put oi.dst v) w → wpE P md ops Q S (n + 1) listed a w := by
  intro n
  induction n with
  | zero =>
    intro listed a w _ hr hy H u hu
    refine ⟨fun h => (by rw [h] at hr; cases hr), fun j hj => ?_⟩
    by_cases e : j = i
    · subst e
      exact hy.step hi hu.2 fun t ht => ⟨ht.2, wpE_up (hu.trans ht) H⟩
    · have h1 := ready_mono hj e
      rw [(H u hu).1] at h1
      cases h1
  | succ n ih =>
    intro listed a w hfree hr hy H u hu
    refine ⟨fun h => (by rw [h] at hr; cases hr), fun j hj => ?_⟩
    by_cases e : j = i
    · subst e
      exact hy.step hi hu.2 fun t ht => ⟨ht.2, wpE_up (hu.trans ht) H⟩
    · obtain ⟨hjun, oj, hoj, hall⟩ := mem_ready.1 hj
      have hnot : ∀ x ∈ oj.after, Region.binds md x = true → x.on ≠ i := by
        intro x hx hb heq
        have h1 := hall x hx hb
        have h0 := (mem_ready.1 hr).1
        rw [heq] at h1
        rcases Nat.lt_or_ge i listed.size with hl | hl
        · simp [hl] at h0 h1; rw [h0] at h1; cases h1
        · simp [Array.getElem?_eq_none hl] at h1
      have h1 := (H u hu).2 j (ready_mono hj e)
      have h2 := step_past hoj (hfree j oj hoj e hjun hnot) (fun cs b => hsel i oi cs b hi) (fun cs b => hsel j oj cs b hoj) hQ hy h1
      refine wpOp_mono (fun b t hb => ⟨hb.2.1, ih (listed.setIfInBounds j true) b t ?_ (ready_mono hr (Ne.symm e)) hb.1 ?_⟩) h2
      · intro k ok hk hki hun hno
        refine hfree k ok hk hki ?_ hno
        by_cases hjk : j = k
        · subst hjk; exact hjun
        · rw [getD_set_ne true hjk] at hun; exact hun
      · rw [Array.setIfInBounds_comm _ _ e]
        exact hb.2.2
theorem call_take {i : Nat} {oi : Oper} {v : Value} {n : Nat} {listed : Array Bool} {a : Act} {w : World} (hi : ops[i]? = some oi)
    (hs : Region.noSelect ops = true) (hf : Region.free md ops listed i = true) (hr : (Region.ready md ops listed).contains i = true)
    (hQ : ∀ c a w, Q (.panic c) (a.put oi.dst v) w → Q (.panic c) a w) (hy : CallsTo P ops S oi v a)
    (h : wpE P md ops Q S n (listed.setIfInBounds i true) (a.put oi.dst v) w) : wpE P md ops Q S (n + 1) listed a w :=
  call_first hi (Region.noSelect_spec hs) hQ n listed a w (Region.free_spec hi hf) (by simpa using hr) (.inl hy) h
theorem skip_take {i : Nat} {oi : Oper} {n : Nat} {listed : Array Bool} {a : Act} {w : World} (hi : ops[i]? = some oi)
    (hs : Region.noSelect ops = true) (hf : Region.free md ops listed i = true) (hr : (Region.ready md ops listed).contains i = true)
    (hQ : ∀ c a w, Q (.panic c) (a.put oi.dst undef) w → Q (.panic c) a w) (hw : Region.wanted oi (yielded ops a.tmps) = false)
    (h : wpE P md ops Q S n (listed.setIfInBounds i true) (a.put oi.dst undef) w) : wpE P md ops Q S (n + 1) listed a w :=
  call_first hi (Region.noSelect_spec hs) hQ n listed a w (Region.free_spec hi hf) (by simpa using hr) (.inr ⟨hw, rfl⟩) h
/-- One operation alone may come up. -/
theorem E_one {i : Nat} {oi : Oper} {n : Nat} {listed : Array Bool} {a : Act} {w : World} (hi : ops[i]? = some oi) (hr : Region.ready md ops listed = [i])
    (h : ∀ w', Ext S w w' → ∀ K : Act → World → Prop, (∀ b u, S u → wpE P md ops Q S n (listed.setIfInBounds i true) b u → K b u) → if Region.wanted oi (yielded ops a.tmps) = true then Oper.wp P oi a w' K Q else K (a.put oi.dst undef) w') :
    wpE P md ops Q S (n + 1) listed a w := by
  intro u hu
  refine ⟨fun h0 => absurd (hr ▸ h0) (by simp), fun j hj => ?_⟩
  rw [hr] at hj
  obtain rfl : j = i := by simpa using hj
  exact wpOp_step hi fun K hK => h u hu K fun b t h1 h2 => hK b t ⟨h1, h2⟩
theorem E_two {i j : Nat} {oi oj : Oper} {n : Nat} {listed : Array Bool} {a : Act} {w : World} (hi : ops[i]? = some oi) (hj : ops[j]? = some oj) (hr : Region.ready md ops listed = [i, j])
    (h : ∀ w', Ext S w w' → ∀ K : Act → World → Prop, (∀ b u, S u → wpE P md ops Q S n (listed.setIfInBounds i true) b u → K b u) → if Region.wanted oi (yielded ops a.tmps) = true then Oper.wp P oi a w' K Q else K (a.put oi.dst undef) w')
    (h' : ∀ w', Ext S w w' → ∀ K : Act → World → Prop, (∀ b u, S u → wpE P md ops Q S n (listed.setIfInBounds j true) b u → K b u) → if Region.wanted oj (yielded ops a.tmps) = true then Oper.wp P oj a w' K Q else K (a.put oj.dst undef) w') :
    wpE P md ops Q S (n + 1) listed a w := by
  intro u hu
  refine ⟨fun h0 => absurd (hr ▸ h0) (by simp), fun k hk => ?_⟩
  rw [hr] at hk
  have hk' : k = i ∨ k = j := by simpa using hk
  rcases hk' with rfl | rfl
  · exact wpOp_step hi fun K hK => h u hu K fun b t h1 h2 => hK b t ⟨h1, h2⟩
  · exact wpOp_step hj fun K hK => h' u hu K fun b t h1 h2 => hK b t ⟨h1, h2⟩
theorem E_done {listed : Array Bool} {a : Act} {w : World} (hr : Region.ready md ops listed = []) (h : ∀ w', Ext S w w' → Q .normal a w') : ∀ n, wpE P md ops Q S n listed a w
  | 0 => fun u hu => ⟨hr, h u hu⟩
  | _ + 1 => fun u hu => ⟨fun _ => h u hu, fun j hj => by rw [hr] at hj; cases hj⟩
theorem E_start {id : Nat} {a : Act} {w : World} (hm : P.follows .mixedOrders = true) (hS : S w.drew) (h : wpE P .any ops Q S ops.size (Array.replicate ops.size false) a w.drew) : (Code.region id ops true).wp P Q a w :=
  wp_region_held_drew hm hS fun hS => held_of_E _ _ _ _ hS h
end
end Go.Proofs.YtmbcejldifobnaaDoor.Sp

namespace Go.Proofs.YtmbcejldifobnaaDoor
open Go.RowKit Tp
structure Boxw (p : Prop) : Prop where
  out : p
/-- What a call has made: blocks of its own, apart from each other, over what was there. -/
structure Loc (w0 : World) (rows : List (Nat × TypeId × List Value)) (w : World) : Prop where
  bel : Below w0.heap.size w0 w
  row : ∀ r ∈ rows, w0.heap.size ≤ r.1 ∧ RowV w r.1 r.2.1 r.2.2
  apart : rows.Pairwise (fun r s => r.1 ≠ s.1)
theorem Loc.start (w : World) : Loc w [] w := ⟨Below.refl _ _, (fun _ h => by cases h), List.Pairwise.nil⟩
theorem Loc.up {w0 w w' : World} {rows : List (Nat × TypeId × List Value)} (h : Loc w0 rows w) (hb : Below w.heap.size w w') : Loc w0 rows w' :=
  ⟨h.bel.trans (hb.mono h.bel.size), fun r hr => ⟨(h.row r hr).1, (h.row r hr).2.up hb⟩, h.apart⟩
theorem Loc.drew {w0 w : World} {rows : List (Nat × TypeId × List Value)} (h : Loc w0 rows w) : Loc w0 rows w.drew := h.up (Below.refl _ _).drew
theorem Loc.push {w0 w : World} {rows : List (Nat × TypeId × List Value)} {g : Nat} {ty : TypeId} {cs : List Value} {B : Nat} (h : Loc w0 rows w) (hr : RowV w g ty cs) (hB : B ≤ g) (h0 : w0.heap.size ≤ B) (hlt : ∀ r ∈ rows, r.1 < B) : Loc w0 ((g, ty, cs) :: rows) w :=
  ⟨h.bel, fun r hm => by
    rcases List.mem_cons.1 hm with rfl | hm
    · exact ⟨Nat.le_trans h0 hB, hr⟩
    · exact h.row r hm, List.Pairwise.cons (fun r hm => by have := hlt r hm; omega) h.apart⟩
theorem Loc.lt {w0 w : World} {rows : List (Nat × TypeId × List Value)} (h : Loc w0 rows w) : ∀ r ∈ rows, r.1 < w.heap.size := fun r hr => (h.row r hr).2.lt
theorem Loc.alloc {w0 w : World} {rows : List (Nat × TypeId × List Value)} (h : Loc w0 rows w) (ty : TypeId) (cs : List Value) : Loc w0 ((w.heap.size, ty, cs) :: rows) (w.alloc (.cells cs.toArray ty)) :=
  (h.up (belB w _)).push (RowV.of_alloc w ty cs) (Nat.le_refl _) h.bel.size h.lt
theorem Loc.get {w0 w : World} {rows : List (Nat × TypeId × List Value)} (h : Loc w0 rows w) {i g : Nat} {ty : TypeId} {cs : List Value} (hi : rows[i]? = some (g, ty, cs)) : RowV w g ty cs :=
  (h.row _ (List.mem_of_getElem? hi)).2
theorem Loc.forget {w0 w : World} {rows rows' : List (Nat × TypeId × List Value)} (h : Loc w0 rows w) (hs : rows'.Sublist rows) : Loc w0 rows' w :=
  ⟨h.bel, fun r hr => h.row r (hs.subset hr), h.apart.sublist hs⟩
theorem below_setCells {B : Nat} {a : World} {g : Nat} (hg : B ≤ g) : ∀ (vs : List Value) (o : Nat) (w : World), Below B a w → Below B a (w.setCells g o vs)
  | [], _, _, h => h
  | v :: r, o, w, h => below_setCells hg r (o + 1) _ (h.setCell (p := ⟨g, o, none⟩) hg v)
theorem Loc.store {w0 w : World} {rows : List (Nat × TypeId × List Value)} (h : Loc w0 rows w) {i g : Nat} {ty : TypeId} {cs : List Value} (hi : rows[i]? = some (g, ty, cs)) (o : Nat) (vs : List Value) (ho : o + vs.length ≤ cs.length) :
    Loc w0 (rows.set i (g, ty, cs.take o ++ vs ++ cs.drop (o + vs.length))) (w.setCells g o vs) := by
  have hm := List.mem_of_getElem? hi
  obtain ⟨hB, hR⟩ := h.row _ hm
  obtain ⟨hlt, hge⟩ := List.getElem?_eq_some_iff.1 hi
  refine ⟨below_setCells hB vs o w h.bel, fun r hr => ?_, ?_⟩
  · rcases List.mem_iff_getElem?.1 hr with ⟨k, hk⟩
    rw [List.getElem?_set] at hk
    by_cases e : i = k
    · subst e
      rw [if_pos rfl, if_pos hlt] at hk
      cases hk
      exact ⟨hB, hR.setCells vs o w cs ho⟩
    · rw [if_neg e] at hk
      obtain ⟨h1, h2⟩ := h.row r (List.mem_of_getElem? hk)
      obtain ⟨klt, hke⟩ := List.getElem?_eq_some_iff.1 hk
      have hne : r.1 ≠ g := by
        have hp := List.pairwise_iff_getElem.1 h.apart
        rcases Nat.lt_or_gt_of_ne e with hik | hik
        · have := hp i k hlt klt hik
          rw [hge, hke] at this
          exact fun he => this he.symm
        · have := hp k i klt hlt hik
          rw [hge, hke] at this
          exact this
      exact ⟨h1, RowV.otherCells hne vs o w h2⟩
  · have hmap : ∀ (l : List (Nat × TypeId × List Value)), l.Pairwise (fun r s => r.1 ≠ s.1) ↔ (l.map Prod.fst).Pairwise (· ≠ ·) := fun l => by rw [List.pairwise_map]
    rw [hmap, List.map_set]
    have : (rows.map Prod.fst).set i g = rows.map Prod.fst := by
      apply List.ext_getElem?
      intro k
      rw [List.getElem?_set]
      by_cases e : i = k
      · subst e
        rw [if_pos rfl]
        simp [hlt, hge]
      · rw [if_neg e]
    show ((rows.map Prod.fst).set i g).Pairwise _
    rw [this, ← hmap]
    exact h.apart
theorem run_storeVar_cells {P : Program} (w : World) (b o : Nat) (ty : TypeId) (v : Value) (cells : List Value) (hv : v.cells = cells.toArray) (ht : w.there b o cells.length) (hi : (P.info? ty).map (·.size) = some cells.length) (h1 : cells.all (·.oneCell') = true) :
    (storeVar ty ⟨b, o, none⟩ v).run P w = .ok () (w.setCells b o cells) := by
  have := run_storeCells_cells (P := P) b o cells 0 w (fun j hj => by simpa using (ht j hj).1) (fun j hj => by simpa using (ht j hj).2)
    (fun v hv => (List.all_eq_true.1 h1) v hv)
  cases hq : P.info? ty with
  | none => simp [hq] at hi
  | some i =>
    have hs : cells.length = i.size := by simp [hq] at hi; omega
    simp only [Nat.add_zero] at this
    simp [storeVar, sizeOf, typeInfo, hq, hv, hs, this]

section
variable {P : Program} {ops : Array Oper} {rest : List Oper} {o : Oper} {a : Act} {w w0 : World} {Q : Exit → Act → World → Prop} {rows : List (Nat × TypeId × List Value)}
theorem aw_seq {x y : Code} (h : Boxw (x.wp P (Exit.then (y.wp P Q) Q) a w)) : Boxw ((Code.seq x y).wp P Q a w) := ⟨wp_seq h.out⟩
theorem aw_block {id : Nat} {c : Code} (h : Boxw (c.wp P (Exit.inBlock id Q) a w)) : Boxw ((Code.block id c).wp P Q a w) := ⟨wp_block h.out⟩
theorem aw_reg {id : Nat} (h : Boxw (wpList P ops Q ops.toList a w)) : Boxw ((Code.region id ops false).wp P Q a w) := ⟨wp_region_list h.out⟩
theorem aw_yes {c : Operand} {x y : Code} (hc : a.eval c = .bool true) (h : Boxw (x.wp P Q a w)) : Boxw ((Code.cond c x y).wp P Q a w) := ⟨wp_cond_true hc h.out⟩
theorem aw_no {c : Operand} {x y : Code} (hc : a.eval c = .bool false) (h : Boxw (y.wp P Q a w)) : Boxw ((Code.cond c x y).wp P Q a w) := ⟨wp_cond_false hc h.out⟩
theorem aw_pass (hw : Region.wanted o (yielded ops a.tmps) = false) (h : Boxw (wpList P ops Q rest (a.put o.dst undef) w)) : Boxw (wpList P ops Q (o :: rest) a w) := ⟨wpList_skip hw h.out⟩
theorem aw_val {v : Value} (v' : Value) (hw : Region.wanted o (yielded ops a.tmps) = true) (hr : (execOp a.eval o).run P w = .ok (.value v) w) (hv : v = v') (h : Boxw (wpList P ops Q rest (a.put o.dst v') w)) : Boxw (wpList P ops Q (o :: rest) a w) := by
  subst hv
  refine Boxw.mk ?_
  unfold wpList
  rw [if_pos hw]
  refine .inl ?_
  unfold Oper.wp
  rw [hr]
  exact h.out
theorem aw_fork (b : Bool) (hw : Region.wanted o (yielded ops a.tmps) = true) (hr : (execOp a.eval o).run P w = .ok (.value (.bool b)) w)
    (ht : b = true → Boxw (wpList P ops Q rest (a.put o.dst (.bool true)) w)) (hf : b = false → Boxw (wpList P ops Q rest (a.put o.dst (.bool false)) w)) : Boxw (wpList P ops Q (o :: rest) a w) := by
  cases b
  · exact aw_val _ hw hr rfl (hf rfl)
  · exact aw_val _ hw hr rfl (ht rfl)
theorem aw_new (ty : TypeId) (cs : List Value) (hl : Loc w0 rows w) (hw : Region.wanted o (yielded ops a.tmps) = true) (hr : (execOp a.eval o).run P w = .ok (.value (.pointer (some ⟨w.heap.size, 0, none⟩))) (w.alloc (.cells cs.toArray ty)))
    (h : ∀ g w', Loc w0 ((g, ty, cs) :: rows) w' → Boxw (wpList P ops Q rest (a.put o.dst (.pointer (some ⟨g, 0, none⟩))) w')) : Boxw (wpList P ops Q (o :: rest) a w) := by
  refine Boxw.mk ?_
  unfold wpList
  rw [if_pos hw]
  refine .inl ?_
  unfold Oper.wp
  rw [hr]
  exact (h _ _ (hl.alloc ty cs)).out
theorem aw_newS (ty : TypeId) (cs : List Value) (n c : Nat) (hl : Loc w0 rows w) (hw : Region.wanted o (yielded ops a.tmps) = true) (hr : (execOp a.eval o).run P w = .ok (.value (.slice (some ⟨w.heap.size, 0, none⟩) n c)) (w.alloc (.cells cs.toArray ty)))
    (h : ∀ g w', Loc w0 ((g, ty, cs) :: rows) w' → Boxw (wpList P ops Q rest (a.put o.dst (.slice (some ⟨g, 0, none⟩) n c)) w')) : Boxw (wpList P ops Q (o :: rest) a w) := by
  refine Boxw.mk ?_
  unfold wpList
  rw [if_pos hw]
  refine .inl ?_
  unfold Oper.wp
  rw [hr]
  exact (h _ _ (hl.alloc ty cs)).out
theorem run_loadS {ty : TypeId} {A : Addr} {v : Value} {d : TypeDesc} (hu : P.underlying ty = some d) (hd : d.isRow = false) (hc : w.cell? A = some v) : (loadVar ty A).run P w = .ok v w := by
  have hagg : (isAgg ty).run P w = .ok false w := by
    unfold isAgg
    rw [Sem.run_bind, run_underlying hu w]
    cases d <;> simp_all
  simp only [loadVar, Sem.run_bind, hagg, Result.andThen_ok, Bool.false_eq_true, if_false]
  go_simp
theorem run_loadOp {ty : TypeId} {x : Operand} {A : Addr} {v : Value} (ho : o.op = .load ty x) (hx : a.eval x = .pointer (some A)) (hl : (loadVar ty A).run P w = .ok v w) : (execOp a.eval o).run P w = .ok (.value v) w := by
  unfold execOp
  simp only [ho, hx, Instr.loadAt, Instr.sureAddr, Sem.run_bind, Sem.run_pure, Result.andThen_ok, hl]
/-- One cell is read. -/
theorem aw_load (ty : TypeId) (x : Operand) (i g k : Nat) (t0 : TypeId) (cs : List Value) (v : Value) (d : TypeDesc) (hl : Loc w0 rows w) (hw : Region.wanted o (yielded ops a.tmps) = true) (ho : o.op = .load ty x) (hx : a.eval x = .pointer (some ⟨g, k, none⟩))
    (hi : rows[i]? = some (g, t0, cs)) (hv : cs[k]? = some v) (hu : P.underlying ty = some d) (hd : d.isRow = false)
    (h : Boxw (wpList P ops Q rest (a.put o.dst v) w)) : Boxw (wpList P ops Q (o :: rest) a w) :=
  aw_val v hw (run_loadOp ho hx (run_loadS hu hd ((hl.get hi).cell hv))) rfl h
/-- One cell of what was there before is read. -/
theorem aw_loadA (ty : TypeId) (x : Operand) (A : Addr) (v : Value) (d : TypeDesc) (hw : Region.wanted o (yielded ops a.tmps) = true) (ho : o.op = .load ty x) (hx : a.eval x = .pointer (some A))
    (hv : w.cell? A = some v) (hu : P.underlying ty = some d) (hd : d.isRow = false)
    (h : Boxw (wpList P ops Q rest (a.put o.dst v) w)) : Boxw (wpList P ops Q (o :: rest) a w) :=
  aw_val v hw (run_loadOp ho hx (run_loadS hu hd hv)) rfl h
theorem row_range {g : Nat} {t0 : TypeId} {cs part : List Value} {k : Nat} (hr : RowV w g t0 cs) (hp : (cs.drop k).take part.length = part) : w.rangeAt g k part :=
  hr.range fun j v hj => by
    rw [← hp, List.getElem?_take] at hj
    split at hj
    · rwa [List.getElem?_drop] at hj
    · cases hj
/-- A whole struct or array is read. -/
theorem aw_mid (ty : TypeId) (x : Operand) (i g k : Nat) (t0 : TypeId) (cs part : List Value) (d : TypeDesc) (hl : Loc w0 rows w) (hw : Region.wanted o (yielded ops a.tmps) = true) (ho : o.op = .load ty x) (hx : a.eval x = .pointer (some ⟨g, k, none⟩))
    (hi : rows[i]? = some (g, t0, cs)) (hp : (cs.drop k).take part.length = part) (hu : P.underlying ty = some d) (hd : d.isRow = true) (hs : (P.info? ty).map (·.size) = some part.length)
    (h : Boxw (wpList P ops Q rest (a.put o.dst (.agg part.toArray)) w)) : Boxw (wpList P ops Q (o :: rest) a w) :=
  aw_val _ hw (run_loadOp ho hx (run_loadVar_mid w g k ty part d (row_range (hl.get hi) hp) hu hd hs)) rfl h
theorem run_storeOp {ty : TypeId} {x y : Operand} {A : Addr} {w' : World} (ho : o.op = .store ty x y) (hx : a.eval x = .pointer (some A)) (hl : (storeVar ty A (a.eval y)).run P w = .ok () w') : ∃ z, (execOp a.eval o).run P w = .ok z w' ∧ (z = .value undef ∨ z = .skip) := by
  unfold execOp
  simp only [ho, hx, Instr.storeAt, Instr.sureAddr, Sem.run_bind, Sem.run_pure, Result.andThen_ok, hl]
  first | exact ⟨_, rfl, .inl rfl⟩ | exact ⟨_, rfl, .inr rfl⟩
theorem upon_store {z : Next} {K : Act → World → Prop} {w' : World} (hz : z = .value undef ∨ z = .skip) (h : K (a.put o.dst undef) w') : Oper.upon P o a K Q (.ok z w') := by
  rcases hz with rfl | rfl
  · rw [Oper.upon_value]; exact h
  · rw [Oper.upon_skip]; exact h
/-- A store into a block of the call's own. -/
theorem aw_store (ty : TypeId) (x y : Operand) (i g k : Nat) (t0 : TypeId) (cs vs cs' : List Value) (rows' : List (Nat × TypeId × List Value)) (hl : Loc w0 rows w) (hw : Region.wanted o (yielded ops a.tmps) = true) (ho : o.op = .store ty x y)
    (hx : a.eval x = .pointer (some ⟨g, k, none⟩)) (hy : (a.eval y).cells = vs.toArray) (hi : rows[i]? = some (g, t0, cs)) (hs : (P.info? ty).map (·.size) = some vs.length) (h1 : vs.all (·.oneCell') = true) (hk : k + vs.length ≤ cs.length)
    (hc : cs.take k ++ vs ++ cs.drop (k + vs.length) = cs') (hr : rows.set i (g, t0, cs') = rows')
    (h : ∀ w', Loc w0 rows' w' → Boxw (wpList P ops Q rest (a.put o.dst undef) w')) : Boxw (wpList P ops Q (o :: rest) a w) := by
  refine Boxw.mk ?_
  unfold wpList
  rw [if_pos hw]
  refine .inl ?_
  unfold Oper.wp
  obtain ⟨z, hz, hzz⟩ := run_storeOp (P := P) (w := w) (w' := w.setCells g k vs) ho hx (run_storeVar_cells w g k ty (a.eval y) vs hy ((hl.get hi).there hk) hs h1)
  rw [hz]
  refine upon_store hzz (h _ ?_).out
  have := hl.store hi k vs hk
  rw [hc, hr] at this
  exact this
/-- A call that returns a value, and changes nothing that was there. -/
theorem aw_call (f : FuncId) (args : Array Value) (v : Value) (hl : Loc w0 rows w) (hw : Region.wanted o (yielded ops a.tmps) = true) (hr : (execOp a.eval o).run P w = .ok (.enter f args) w)
    (hc : Calls P f args w fun e w' => e = .returned v ∧ Below w.heap.size w w') (h : ∀ w', Loc w0 rows w' → Boxw (wpList P ops Q rest (a.put o.dst v) w')) : Boxw (wpList P ops Q (o :: rest) a w) := by
  refine Boxw.mk ?_
  unfold wpList
  rw [if_pos hw]
  refine .inl ?_
  unfold Oper.wp
  rw [hr]
  refine hc.mono ?_
  rintro e w' ⟨rfl, hb⟩
  exact (h w' (hl.up hb)).out
theorem aw_nil (h : Boxw (Q .normal a w)) : Boxw (wpList P ops Q [] a w) := ⟨h.out⟩
theorem aw_skip0 (h : Boxw (Q .normal a w)) : Boxw (Code.skip.wp P Q a w) := ⟨wp_skip h.out⟩
theorem aw_exit {id : Nat} (h : Boxw (Q (.exit id) a w)) : Boxw ((Code.exit id).wp P Q a w) := ⟨wp_exit h.out⟩
theorem aw_ret (h : Boxw (Q .ret a w)) : Boxw (Code.ret.wp P Q a w) := ⟨wp_ret h.out⟩
theorem aw_n_then {y : Code} (h : Boxw (y.wp P Q a w)) : Boxw (Exit.then (y.wp P Q) Q .normal a w) := ⟨h.out⟩
theorem aw_r_then {K : Act → World → Prop} (h : Boxw (Q .ret a w)) : Boxw (Exit.then K Q .ret a w) := ⟨h.out⟩
theorem aw_e_then {K : Act → World → Prop} {id : Nat} (h : Boxw (Q (.exit id) a w)) : Boxw (Exit.then K Q (.exit id) a w) := ⟨h.out⟩
theorem aw_n_in {id : Nat} (h : Boxw (Q .normal a w)) : Boxw (Exit.inBlock id Q .normal a w) := ⟨h.out⟩
theorem aw_r_in {id : Nat} (h : Boxw (Q .ret a w)) : Boxw (Exit.inBlock id Q .ret a w) := ⟨h.out⟩
theorem aw_e_in {id : Nat} (h : Boxw (Q .normal a w)) : Boxw (Exit.inBlock id Q (.exit id) a w) := ⟨by show if id = id then _ else _; rw [if_pos rfl]; exact h.out⟩
theorem aw_end {fn : Func} {R : Ending → World → Prop} (v : Value) (hd : a.defers = []) (hr : (results fn a.tmps).run P w = .ok v w) (hR : R (.returned v) w) : Boxw (bodyPost P fn R .ret a w) := ⟨hd, v, hr, hR⟩
theorem aw_callb (f : FuncId) (args : Array Value) (b : Bool) (hl : Loc w0 rows w) (hw : Region.wanted o (yielded ops a.tmps) = true) (hr : (execOp a.eval o).run P w = .ok (.enter f args) w)
    (hc : Calls P f args w fun e w' => e = .returned (.bool b) ∧ Below w.heap.size w w') (ht : b = true → ∀ w', Loc w0 rows w' → Boxw (wpList P ops Q rest (a.put o.dst (.bool true)) w')) (hf : b = false → ∀ w', Loc w0 rows w' → Boxw (wpList P ops Q rest (a.put o.dst (.bool false)) w')) : Boxw (wpList P ops Q (o :: rest) a w) := by
  cases b
  · exact aw_call f args _ hl hw hr hc (hf rfl)
  · exact aw_call f args _ hl hw hr hc (ht rfl)
theorem aw_cut {c : Code} (Q' : Exit → Act → World → Prop) (h : Boxw (c.wp P Q' a w)) (hq : ∀ e b u, Q' e b u → Q e b u) : Boxw (c.wp P Q a w) := ⟨wp_mono h.out hq⟩
theorem res_c {fn : Func} {tmps : Array Value} {k : Nat} {t : TypeId} {A : Addr} {v : Value} (hf : fn.results = #[.cell k t]) (ha : tmps.getD k undef = .pointer (some A)) (hl : (loadVar t A).run P w = .ok v w) : (results fn tmps).run P w = .ok v w := by
  unfold results
  rw [hf]
  have ha2 : tmps[k]?.getD undef = .pointer (some A) := by rw [← ha, Array.getD_eq_getD_getElem?]
  simp [ha2, asAddr, hl]
theorem res_ct {fn : Func} {tmps : Array Value} {k b : Nat} {t : TypeId} {A : Addr} {v z : Value} (hf : fn.results = #[.cell k t, .tmp b]) (ha : tmps.getD k undef = .pointer (some A)) (hz : tmps.getD b undef = z) (hl : (loadVar t A).run P w = .ok v w) : (results fn tmps).run P w = .ok (.tuple #[v, z]) w := by
  unfold results
  rw [hf]
  have ha2 : tmps[k]?.getD undef = .pointer (some A) := by rw [← ha, Array.getD_eq_getD_getElem?]
  have hz2 : tmps[b]?.getD undef = z := by rw [← hz, Array.getD_eq_getD_getElem?]
  simp [ha2, hz2, asAddr, Sem.run_bind, hl]
theorem res_cct {fn : Func} {tmps : Array Value} {k k2 b : Nat} {t t2 : TypeId} {A A2 : Addr} {v v2 z : Value} (hf : fn.results = #[.cell k t, .cell k2 t2, .tmp b]) (ha : tmps.getD k undef = .pointer (some A)) (ha2 : tmps.getD k2 undef = .pointer (some A2)) (hz : tmps.getD b undef = z) (hl : (loadVar t A).run P w = .ok v w) (hl2 : (loadVar t2 A2).run P w = .ok v2 w) : (results fn tmps).run P w = .ok (.tuple #[v, v2, z]) w := by
  unfold results
  rw [hf]
  have h1 : tmps[k]?.getD undef = .pointer (some A) := by rw [← ha, Array.getD_eq_getD_getElem?]
  have h2 : tmps[k2]?.getD undef = .pointer (some A2) := by rw [← ha2, Array.getD_eq_getD_getElem?]
  have h3 : tmps[b]?.getD undef = z := by rw [← hz, Array.getD_eq_getD_getElem?]
  simp [h1, h2, h3, asAddr, Sem.run_bind, hl, hl2]
theorem loc_var {ty : TypeId} {i g : Nat} {t0 : TypeId} {cs : List Value} {d : TypeDesc} (hl : Loc w0 rows w) (hi : rows[i]? = some (g, t0, cs)) (hu : P.underlying ty = some d) (hd : d.isRow = true) (hs : (P.info? ty).map (·.size) = some cs.length) : (loadVar ty ⟨g, 0, none⟩).run P w = .ok (.agg cs.toArray) w :=
  run_loadVar_mid w g 0 ty cs d (row_range (hl.get hi) (by rw [List.drop_zero, List.take_length])) hu hd hs
end
end Go.Proofs.YtmbcejldifobnaaDoor

namespace Go.Proofs.YtmbcejldifobnaaDoor
open Go.RowKit Tp Sp
section
variable {P : Program} {ops : Array Oper} {oi : Oper} {a : Act} {w w0 : World} {Q : Exit → Act → World → Prop} {rows rowsR : List (Nat × TypeId × List Value)} {n i : Nat} {listed : Array Bool}
theorem ad_start {id : Nat} (rowsR : List (Nat × TypeId × List Value)) (hl : Loc w0 rows w) (hm : P.follows .mixedOrders = true) (hs : rowsR.Sublist rows) (hn : ops.size = n)
    (h : ∀ u, Loc w0 rows u → Boxw (wpE P .any ops Q (Loc w0 rowsR) n (Array.replicate n false) a u)) : Boxw ((Code.region id ops true).wp P Q a w) := by
  subst hn
  exact ⟨E_start hm (hl.drew.forget hs) (h _ hl.drew).out⟩
theorem ad_val (i : Nat) (v' : Value) {v : Value} (hi : ops[i]? = some oi) (hs : Region.noSelect ops = true) (hf : Region.free .any ops listed i = true) (hr : (Region.ready .any ops listed).contains i = true)
    (hQ : ∀ c a w, Q (.panic c) (a.put oi.dst v) w → Q (.panic c) a w) (hw : Region.wanted oi (yielded ops a.tmps) = true) (he : ∀ u, Loc w0 rowsR u → (execOp a.eval oi).run P u = .ok (.value v) u) (hv : v = v')
    (h : Boxw (wpE P .any ops Q (Loc w0 rowsR) n (listed.setIfInBounds i true) (a.put oi.dst v') w)) : Boxw (wpE P .any ops Q (Loc w0 rowsR) (n + 1) listed a w) := by
  subst hv
  exact ⟨call_take hi hs hf hr hQ ⟨hw, .inr he⟩ h.out⟩
theorem ad_call (i : Nat) (f : FuncId) (args : Array Value) (v : Value) (hi : ops[i]? = some oi) (hs : Region.noSelect ops = true) (hf : Region.free .any ops listed i = true) (hr : (Region.ready .any ops listed).contains i = true)
    (hQ : ∀ c a w, Q (.panic c) (a.put oi.dst v) w → Q (.panic c) a w) (hw : Region.wanted oi (yielded ops a.tmps) = true) (he : ∀ u, (execOp a.eval oi).run P u = .ok (.enter f args) u)
    (hc : ∀ u, Loc w0 rowsR u → Calls P f args u fun e w' => e = .returned v ∧ Below u.heap.size u w')
    (h : Boxw (wpE P .any ops Q (Loc w0 rowsR) n (listed.setIfInBounds i true) (a.put oi.dst v) w)) : Boxw (wpE P .any ops Q (Loc w0 rowsR) (n + 1) listed a w) :=
  ⟨call_take hi hs hf hr hQ ⟨hw, .inl ⟨f, args, he, fun u hu => (hc u hu).mono fun _ _ ⟨h1, h2⟩ => ⟨h1, h2, hu.up h2⟩⟩⟩ h.out⟩
theorem ad_load (i : Nat) (ty : TypeId) (x : Operand) (j g k : Nat) (t0 : TypeId) (cs : List Value) (v : Value) (d : TypeDesc) (hi : ops[i]? = some oi) (hs : Region.noSelect ops = true) (hf : Region.free .any ops listed i = true) (hr : (Region.ready .any ops listed).contains i = true)
    (hQ : ∀ c a w, Q (.panic c) (a.put oi.dst v) w → Q (.panic c) a w) (hw : Region.wanted oi (yielded ops a.tmps) = true) (ho : oi.op = .load ty x) (hx : a.eval x = .pointer (some ⟨g, k, none⟩))
    (hj : rowsR[j]? = some (g, t0, cs)) (hv : cs[k]? = some v) (hu : P.underlying ty = some d) (hd : d.isRow = false)
    (h : Boxw (wpE P .any ops Q (Loc w0 rowsR) n (listed.setIfInBounds i true) (a.put oi.dst v) w)) : Boxw (wpE P .any ops Q (Loc w0 rowsR) (n + 1) listed a w) :=
  ad_val i v hi hs hf hr hQ hw (fun _ hl => run_loadOp ho hx (run_loadS hu hd ((hl.get hj).cell hv))) rfl h
theorem ad_loadA (i : Nat) (ty : TypeId) (x : Operand) (A : Addr) (v : Value) (d : TypeDesc) (hi : ops[i]? = some oi) (hs : Region.noSelect ops = true) (hf : Region.free .any ops listed i = true) (hr : (Region.ready .any ops listed).contains i = true)
    (hQ : ∀ c a w, Q (.panic c) (a.put oi.dst v) w → Q (.panic c) a w) (hw : Region.wanted oi (yielded ops a.tmps) = true) (ho : oi.op = .load ty x) (hx : a.eval x = .pointer (some A))
    (hv : w0.cell? A = some v) (hlt : A.block < w0.heap.size) (hu : P.underlying ty = some d) (hd : d.isRow = false)
    (h : Boxw (wpE P .any ops Q (Loc w0 rowsR) n (listed.setIfInBounds i true) (a.put oi.dst v) w)) : Boxw (wpE P .any ops Q (Loc w0 rowsR) (n + 1) listed a w) :=
  ad_val i v hi hs hf hr hQ hw (fun _ hl => run_loadOp ho hx (run_loadS hu hd ((hl.bel.cell hlt).trans hv))) rfl h
theorem ad_mid (i : Nat) (ty : TypeId) (x : Operand) (j g k : Nat) (t0 : TypeId) (cs part : List Value) (d : TypeDesc) (hi : ops[i]? = some oi) (hs : Region.noSelect ops = true) (hf : Region.free .any ops listed i = true) (hr : (Region.ready .any ops listed).contains i = true)
    (hQ : ∀ c a w, Q (.panic c) (a.put oi.dst (.agg part.toArray)) w → Q (.panic c) a w) (hw : Region.wanted oi (yielded ops a.tmps) = true) (ho : oi.op = .load ty x) (hx : a.eval x = .pointer (some ⟨g, k, none⟩))
    (hj : rowsR[j]? = some (g, t0, cs)) (hp : (cs.drop k).take part.length = part) (hu : P.underlying ty = some d) (hd : d.isRow = true) (hz : (P.info? ty).map (·.size) = some part.length)
    (h : Boxw (wpE P .any ops Q (Loc w0 rowsR) n (listed.setIfInBounds i true) (a.put oi.dst (.agg part.toArray)) w)) : Boxw (wpE P .any ops Q (Loc w0 rowsR) (n + 1) listed a w) :=
  ad_val i _ hi hs hf hr hQ hw (fun _ hl => run_loadOp ho hx (run_loadVar_mid _ g k ty part d (row_range (hl.get hj) hp) hu hd hz)) rfl h
/-- An operation that may come next, whatever it does to the memory. -/
def AdStep (P : Program) (ops : Array Oper) (Q : Exit → Act → World → Prop) (w0 : World) (rows rowsR : List (Nat × TypeId × List Value)) (n : Nat) (listed : Array Bool) (a : Act) (i : Nat) : Prop :=
  ∀ u, Loc w0 rows u → wpOp P ops Q i (fun b t => Loc w0 rowsR t ∧ wpE P .any ops Q (Loc w0 rowsR) n (listed.setIfInBounds i true) b t) a u
theorem ad_many (hl : Loc w0 rows w) (hne : Region.ready .any ops listed ≠ []) (h : ∀ i ∈ Region.ready .any ops listed, AdStep P ops Q w0 rows rowsR n listed a i) : Boxw (wpE P .any ops Q (Loc w0 rowsR) (n + 1) listed a w) :=
  ⟨fun u hu => ⟨fun h0 => absurd h0 hne, fun j hj => h j hj u (hl.up hu.1)⟩⟩
theorem ad_one (i : Nat) (hl : Loc w0 rows w) (hr : Region.ready .any ops listed = [i]) (h : AdStep P ops Q w0 rows rowsR n listed a i) : Boxw (wpE P .any ops Q (Loc w0 rowsR) (n + 1) listed a w) :=
  ad_many hl (by rw [hr]; simp) (by rw [hr]; intro j hj; obtain rfl : j = i := by simpa using hj
                                    exact h)
theorem ad_two (i j : Nat) (hl : Loc w0 rows w) (hr : Region.ready .any ops listed = [i, j]) (h : AdStep P ops Q w0 rows rowsR n listed a i) (h' : AdStep P ops Q w0 rows rowsR n listed a j) : Boxw (wpE P .any ops Q (Loc w0 rowsR) (n + 1) listed a w) :=
  ad_many hl (by rw [hr]; simp) (by
    rw [hr]; intro k hk
    have hk' : k = i ∨ k = j := by simpa using hk
    rcases hk' with rfl | rfl
    · exact h
    · exact h')
theorem as_store (ty : TypeId) (x y : Operand) (j g k : Nat) (t0 : TypeId) (cs vs cs' : List Value) (rows' : List (Nat × TypeId × List Value)) (hi : ops[i]? = some oi) (hw : Region.wanted oi (yielded ops a.tmps) = true) (ho : oi.op = .store ty x y)
    (hx : a.eval x = .pointer (some ⟨g, k, none⟩)) (hy : (a.eval y).cells = vs.toArray) (hj : rows[j]? = some (g, t0, cs)) (hs : (P.info? ty).map (·.size) = some vs.length) (h1 : vs.all (·.oneCell') = true) (hk : k + vs.length ≤ cs.length)
    (hc : cs.take k ++ vs ++ cs.drop (k + vs.length) = cs') (hr : rows.set j (g, t0, cs') = rows') (hsub : rowsR.Sublist rows')
    (h : ∀ w', Loc w0 rows' w' → Boxw (wpE P .any ops Q (Loc w0 rowsR) n (listed.setIfInBounds i true) (a.put oi.dst undef) w')) : AdStep P ops Q w0 rows rowsR n listed a i := by
  intro u hl
  unfold wpOp
  simp only [hi, hw, if_true]
  left
  unfold Oper.wp
  obtain ⟨z, hz, hzz⟩ := run_storeOp (P := P) (w := u) (w' := u.setCells g k vs) ho hx (run_storeVar_cells u g k ty (a.eval y) vs hy ((hl.get hj).there hk) hs h1)
  rw [hz]
  have hl' := hl.store hj k vs hk
  rw [hc, hr] at hl'
  exact upon_store hzz ⟨hl'.forget hsub, (h _ hl').out⟩
theorem as_new (ty : TypeId) (cs : List Value) (hi : ops[i]? = some oi) (hw : Region.wanted oi (yielded ops a.tmps) = true) (hr : ∀ u, (execOp a.eval oi).run P u = .ok (.value (.pointer (some ⟨u.heap.size, 0, none⟩))) (u.alloc (.cells cs.toArray ty))) (hsub : rowsR.Sublist rows)
    (h : ∀ g w', Loc w0 ((g, ty, cs) :: rows) w' → Boxw (wpE P .any ops Q (Loc w0 rowsR) n (listed.setIfInBounds i true) (a.put oi.dst (.pointer (some ⟨g, 0, none⟩))) w')) : AdStep P ops Q w0 rows rowsR n listed a i := by
  intro u hl
  unfold wpOp
  simp only [hi, hw, if_true]
  left
  unfold Oper.wp
  rw [hr, Oper.upon_value]
  exact ⟨(hl.alloc ty cs).forget (List.Sublist.cons _ hsub), (h _ _ (hl.alloc ty cs)).out⟩
theorem ad_done (hl : Loc w0 rows w) (hr : Region.ready .any ops listed = []) (h : ∀ u, Loc w0 rows u → Boxw (Q .normal a u)) : Boxw (wpE P .any ops Q (Loc w0 rowsR) n listed a w) :=
  ⟨E_done hr (fun u hu => (h u (hl.up hu.1)).out) n⟩
end
theorem run_quo {P : Program} {o : Oper} {E : Operand → Value} (w : World) (ty ty2 : TypeId) (x y : Operand) (p q : Int) (ho : o.op = .binOp .quo ty x y ty2) (hx : E x = .int .i64 p) (hy : E y = .int .i64 q) (h0 : q ≠ 0) (hu : P.underlying ty = some (.int .i64)) : (execOp E o).run P w = .ok (.value (.int .i64 (IntKind.i64.wrap (p.tdiv q)))) w := by
  obtain ⟨d, op, t, pos, af, gd⟩ := o
  subst ho
  go_simp
theorem run_min {P : Program} {o : Oper} {E : Operand → Value} (w : World) (at_ : Array TypeId) (x y : Operand) (p q : Int) (ho : o.op = .call { callee := .builtin .min, args := #[x, y], argTypes := at_ }) (hx : E x = .int .i64 p) (hy : E y = .int .i64 q) : (execOp E o).run P w = .ok (.value (.int .i64 (min p q))) w := by
  obtain ⟨d, op, t, pos, af, gd⟩ := o
  subst ho
  go_simp
theorem quo_pos {p q : Int} (h0 : 0 ≤ p) (h1 : p ≤ 9223372036854775807) (hq : 0 < q) : IntKind.i64.wrap (p.tdiv q) = p / q := by
  have e : p.tdiv q = p / q := Int.tdiv_eq_ediv_of_nonneg h0
  have a : p / q ≤ p := Int.ediv_le_self q h0
  have b : 0 ≤ p / q := Int.ediv_nonneg h0 (by omega)
  rw [e]
  exact IntWalk.i64_in _ (by omega)
theorem Loc.perm {w0 w : World} {rows rows' : List (Nat × TypeId × List Value)} (h : Loc w0 rows w) (hp : rows.Perm rows') : Loc w0 rows' w :=
  ⟨h.bel, fun r hr => h.row r (hp.symm.subset hr), (hp.pairwise_iff (fun hxy => Ne.symm hxy)).1 h.apart⟩
theorem aw_unroll {P : Program} {Q : Exit → Act → World → Prop} {a : Act} {w : World} {c : Code} (n : Nat) (h : Boxw (Code.rounds P c Q n a w)) : Boxw ((Code.loop c).wp P Q a w) := ⟨wp_loop_rounds n h.out⟩
theorem aw_urnd {P : Program} {Q : Exit → Act → World → Prop} {a : Act} {w : World} {c : Code} {n : Nat} (h : Boxw (c.wp P (Exit.then (Code.rounds P c Q n) Q) a w)) : Boxw (Code.rounds P c Q (n + 1) a w) := ⟨h.out⟩
theorem aw_urn {P : Program} {Q : Exit → Act → World → Prop} {a : Act} {w : World} {c : Code} {n : Nat} (h : Boxw (Code.rounds P c Q n a w)) : Boxw (Exit.then (Code.rounds P c Q n) Q .normal a w) := ⟨h.out⟩
theorem aw_neq_t {x y : Int} (h : (x != y) = true) : x ≠ y := by intro e; rw [e] at h; simp at h
theorem aw_neq_f {x y : Int} (h : (x != y) = false) : x = y := by simpa using h
theorem loc_old {w0 w : World} {rows : List (Nat × TypeId × List Value)} (h : Loc w0 rows w) {A : Addr} {v : Value} (hc : w0.cell? A = some v ∧ A.block < w0.heap.size) : w.cell? A = some v := (h.bel.cell hc.2).trans hc.1
end Go.Proofs.YtmbcejldifobnaaDoor
