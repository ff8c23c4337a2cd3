import Derived.Test.YtlmcafcebidliaaDoorKB6
namespace Go.Proofs.YtlmcafcebidliaaDoor
open Go.RowKit

theorem at7 {x0 x1 x2 x3 x4 x5 d n : Int} {i : Nat} (h : [x0, x1, x2, x3, x4, x5][i]? = some n) : [x0, x1, x2, x3, x4, x5, d][i]? = some n := by
  have hi := (List.getElem?_eq_some_iff.1 h).1
  show ([x0, x1, x2, x3, x4, x5] ++ [d])[i]? = _
  rw [List.getElem?_append_left hi]
  exact h
def mixL (Z O : List Int) (i : Nat) : List Int := Z.take i ++ O.drop i
theorem mixL_set {Z O : List Int} {i : Nat} {z : Int} (hl : Z.length = O.length) (h : Z[i]? = some z) : (mixL Z O i).set i z = mixL Z O (i + 1) := by
  have hi := (List.getElem?_eq_some_iff.1 h).1
  have h1 : (Z.take i).length = i := by rw [List.length_take]; omega
  have hd : O.drop i = O[i]'(by omega) :: O.drop (i + 1) := List.drop_eq_getElem_cons (by omega)
  unfold mixL
  rw [List.set_append, if_neg (by omega), h1, Nat.sub_self, hd, List.set_cons_zero, List.take_add_one, h]
  simp
theorem mixL_at {Z O : List Int} {i : Nat} (hl : Z.length = O.length) (hi : i < O.length) : ∃ o, (mixL Z O i)[i]? = some o := by
  unfold mixL
  have h1 : (Z.take i).length = i := by rw [List.length_take]; omega
  refine ⟨O[i], ?_⟩
  rw [List.getElem?_append_right (by omega), h1, Nat.sub_self, List.getElem?_drop, Nat.add_zero]
  exact List.getElem?_eq_getElem hi
def tpZ (x y xd yd s : Int) : Int := x * yd + s * y * xd
theorem zip_at {f : Int → Int → Int} {X Y : List Int} {i : Nat} {x y : Int} (hx : X[i]? = some x) (hy : Y[i]? = some y) : (List.zipWith f X Y)[i]? = some (f x y) := by
  rw [List.getElem?_zipWith, hx, hy]
def tpL (X Y : List Int) (xd yd s : Int) : List Int := List.zipWith (fun x y => tpZ x y xd yd s) X Y
def zero6 : List Int := [0, 0, 0, 0, 0, 0]
def TpRel (w : World) (B : Nat) (X Y : List Int) (xd yd s : Int) (iv : Value) (wr : World) : Prop :=
  ∃ i : Nat, i ≤ 6 ∧ iv = .int .i64 (i : Int) ∧ RowI wr B 40 (X ++ [xd]) ∧ RowI wr (B + 1) 40 (Y ++ [yd]) ∧ RowI wr (B + 1 + 1) 38 (mixL (tpL X Y xd yd s) zero6 i) ∧ Below B w wr
theorem mul_bd {a b A B : Int} (ha : -A ≤ a ∧ a ≤ A) (hb : -B ≤ b ∧ b ≤ B) (hA : 0 ≤ A) : -(A * B) ≤ a * b ∧ a * b ≤ A * B := by
  have hB : 0 ≤ B := by omega
  have h1 : (a * b).natAbs ≤ A.natAbs * B.natAbs := by
    rw [Int.natAbs_mul]; exact Nat.mul_le_mul (by omega) (by omega)
  have h2 : ((A.natAbs * B.natAbs : Nat) : Int) = A * B := by rw [Int.natCast_mul]; congr 1 <;> omega
  omega
theorem RowI.drew {w : World} {g : Nat} {t : TypeId} {L : List Int} (h : RowI w g t L) : RowI w.drew g t L := h
def putA (w : World) (g : Nat) (x0 x1 x2 x3 x4 x5 : Int) : World :=
  (((((w.setCell ⟨g, 0, none⟩ (.int .i64 x0)).setCell ⟨g, 1, none⟩ (.int .i64 x1)).setCell ⟨g, 2, none⟩ (.int .i64 x2)).setCell ⟨g, 3, none⟩ (.int .i64 x3)).setCell ⟨g, 4, none⟩ (.int .i64 x4)).setCell ⟨g, 5, none⟩ (.int .i64 x5)
theorem putA_row {w : World} {g : Nat} {t : TypeId} {a0 a1 a2 a3 a4 a5 : Int} (h : RowI w g t [a0, a1, a2, a3, a4, a5]) (x0 x1 x2 x3 x4 x5 : Int) : RowI (putA w g x0 x1 x2 x3 x4 x5) g t [x0, x1, x2, x3, x4, x5] :=
  (((((h.set 0 x0).set 1 x1).set 2 x2).set 3 x3).set 4 x4).set 5 x5
theorem putA_below {w0 w : World} {B g : Nat} (h : Below B w0 w) (hg : B ≤ g) (x0 x1 x2 x3 x4 x5 : Int) : Below B w0 (putA w g x0 x1 x2 x3 x4 x5) :=
  (((((h.setCell hg _).setCell hg _).setCell hg _).setCell hg _).setCell hg _).setCell hg _
theorem putA_other {w : World} {g k : Nat} {t : TypeId} {L : List Int} (h : RowI w g t L) (hne : g ≠ k) (x0 x1 x2 x3 x4 x5 : Int) : RowI (putA w k x0 x1 x2 x3 x4 x5) g t L :=
  (((((h.other _ hne).other _ hne).other _ hne).other _ hne).other _ hne).other _ hne
def TpPost (w : World) (v : V6) (d : Int) (e : Ending) (w' : World) : Prop := e = .returned (.tuple #[.agg #[.int .i64 v.a, .int .i64 v.b, .int .i64 v.c, .int .i64 v.d, .int .i64 v.e, .int .i64 v.f], .int .i64 d]) ∧ Below w.heap.size w w'
set_option maxRecDepth 100000 in
set_option maxHeartbeats 1000000 in
theorem timesPower_any (x0 x1 x2 x3 x4 x5 xd y0 y1 y2 y3 y4 y5 yd s : Int) (w : World) (hx : ∀ n ∈ [x0, x1, x2, x3, x4, x5], -100000 ≤ n ∧ n ≤ 100000) (hy : ∀ n ∈ [y0, y1, y2, y3, y4, y5], -100000 ≤ n ∧ n ≤ 100000) (hxd : 1 ≤ xd ∧ xd ≤ 1000) (hyd : 1 ≤ yd ∧ yd ≤ 1000) (hs : -1 ≤ s ∧ s ≤ 1) :
    Calls Tryd.prog 85 #[.agg #[.int .i64 x0, .int .i64 x1, .int .i64 x2, .int .i64 x3, .int .i64 x4, .int .i64 x5, .int .i64 xd], .agg #[.int .i64 y0, .int .i64 y1, .int .i64 y2, .int .i64 y3, .int .i64 y4, .int .i64 y5, .int .i64 yd], .int .i64 s] w (TpPost w ⟨tpZ x0 y0 xd yd s, tpZ x1 y1 xd yd s, tpZ x2 y2 xd yd s, tpZ x3 y3 xd yd s, tpZ x4 y4 xd yd s, tpZ x5 y5 xd yd s⟩ (xd * yd)) := by
  have HX := Lib.hid hx
  have HY := Lib.hid hy
  clear hx hy
  go_enter Tryd.func85, Tryd.ntmps85
  go_wp2
  have hx0 : RowI (((w.alloc (.cells #[.int .i64 x0, .int .i64 x1, .int .i64 x2, .int .i64 x3, .int .i64 x4, .int .i64 x5, .int .i64 xd] 40)).alloc (.cells #[.int .i64 y0, .int .i64 y1, .int .i64 y2, .int .i64 y3, .int .i64 y4, .int .i64 y5, .int .i64 yd] 40)).alloc (.cells #[.int .i64 0, .int .i64 0, .int .i64 0, .int .i64 0, .int .i64 0, .int .i64 0] 38)) w.heap.size 40 ([x0, x1, x2, x3, x4, x5] ++ [xd]) :=
    ((belA _ _).block w.heap.size (by simp; omega)).trans (((belA _ _).block w.heap.size (by simp)).trans (heap_alloc_new w _))
  have hy0 : RowI (((w.alloc (.cells #[.int .i64 x0, .int .i64 x1, .int .i64 x2, .int .i64 x3, .int .i64 x4, .int .i64 x5, .int .i64 xd] 40)).alloc (.cells #[.int .i64 y0, .int .i64 y1, .int .i64 y2, .int .i64 y3, .int .i64 y4, .int .i64 y5, .int .i64 yd] 40)).alloc (.cells #[.int .i64 0, .int .i64 0, .int .i64 0, .int .i64 0, .int .i64 0, .int .i64 0] 38)) (w.heap.size + 1) 40 ([y0, y1, y2, y3, y4, y5] ++ [yd]) := by
    have h := heap_alloc_new (w.alloc (.cells #[.int .i64 x0, .int .i64 x1, .int .i64 x2, .int .i64 x3, .int .i64 x4, .int .i64 x5, .int .i64 xd] 40)) (.cells #[.int .i64 y0, .int .i64 y1, .int .i64 y2, .int .i64 y3, .int .i64 y4, .int .i64 y5, .int .i64 yd] 40)
    rw [World.size_alloc] at h
    exact ((belA _ _).block (w.heap.size + 1) (by simp)).trans h
  have hz0 : RowI (((w.alloc (.cells #[.int .i64 x0, .int .i64 x1, .int .i64 x2, .int .i64 x3, .int .i64 x4, .int .i64 x5, .int .i64 xd] 40)).alloc (.cells #[.int .i64 y0, .int .i64 y1, .int .i64 y2, .int .i64 y3, .int .i64 y4, .int .i64 y5, .int .i64 yd] 40)).alloc (.cells #[.int .i64 0, .int .i64 0, .int .i64 0, .int .i64 0, .int .i64 0, .int .i64 0] 38)) (w.heap.size + 1 + 1) 38 (mixL (tpL [x0, x1, x2, x3, x4, x5] [y0, y1, y2, y3, y4, y5] xd yd s) zero6 0) := by
    have h := heap_alloc_new ((w.alloc (.cells #[.int .i64 x0, .int .i64 x1, .int .i64 x2, .int .i64 x3, .int .i64 x4, .int .i64 x5, .int .i64 xd] 40)).alloc (.cells #[.int .i64 y0, .int .i64 y1, .int .i64 y2, .int .i64 y3, .int .i64 y4, .int .i64 y5, .int .i64 yd] 40)) (.cells #[.int .i64 0, .int .i64 0, .int .i64 0, .int .i64 0, .int .i64 0, .int .i64 0] 38)
    rw [World.size_alloc, World.size_alloc] at h
    exact h
  have hb0 := ((belA w (.cells #[.int .i64 x0, .int .i64 x1, .int .i64 x2, .int .i64 x3, .int .i64 x4, .int .i64 x5, .int .i64 xd] 40)).alloc (by simp) (.cells #[.int .i64 y0, .int .i64 y1, .int .i64 y2, .int .i64 y3, .int .i64 y4, .int .i64 y5, .int .i64 yd] 40)).alloc (by simp; omega) (.cells #[.int .i64 0, .int .i64 0, .int .i64 0, .int .i64 0, .int .i64 0, .int .i64 0] 38)
  generalize ((w.alloc (.cells #[.int .i64 x0, .int .i64 x1, .int .i64 x2, .int .i64 x3, .int .i64 x4, .int .i64 x5, .int .i64 xd] 40)).alloc (.cells #[.int .i64 y0, .int .i64 y1, .int .i64 y2, .int .i64 y3, .int .i64 y4, .int .i64 y5, .int .i64 yd] 40)).alloc (.cells #[.int .i64 0, .int .i64 0, .int .i64 0, .int .i64 0, .int .i64 0, .int .i64 0] 38) = W0 at *
  have HX0 := Lib.hid hx0
  have HY0 := Lib.hid hy0
  have HZ0 := Lib.hid hz0
  have HB0 := Lib.hid hb0
  clear hx0 hy0 hz0 hb0
  go_loopw [9] (fun iv wr => TpRel w w.heap.size [x0, x1, x2, x3, x4, x5] [y0, y1, y2, y3, y4, y5] xd yd s iv wr) (fun iv _ => 6 - (intOf iv).toNat)
  case atStart => exact ⟨0, Nat.zero_le _, rfl, HX0.out, HY0.out, HZ0.out, HB0.out⟩
  case round =>
    clear HX0 HY0 HZ0 HB0
    obtain ⟨i, hi, rfl, hrx, hry, hrz, hb⟩ := hrel
    have HRX := Lib.hid hrx
    have HRY := Lib.hid hry
    have HRZ := Lib.hid hrz
    have HB := Lib.hid hb
    clear hrx hry hrz hb
    have kxd := HRX.out.cell (i := 6) (x := xd) rfl
    have kyd := HRY.out.cell (i := 6) (x := yd) rfl
    by_cases hil : i < 6
    · obtain ⟨x, hx⟩ : ∃ x, [x0, x1, x2, x3, x4, x5][i]? = some x := ⟨[x0, x1, x2, x3, x4, x5][i], List.getElem?_eq_getElem _⟩
      obtain ⟨y, hy⟩ : ∃ y, [y0, y1, y2, y3, y4, y5][i]? = some y := ⟨[y0, y1, y2, y3, y4, y5][i], List.getElem?_eq_getElem _⟩
      have hxb := HX.out x (List.mem_of_getElem? hx)
      have hyb := HY.out y (List.mem_of_getElem? hy)
      have kx := HRX.out.cell (at7 (d := xd) hx)
      have ky := HRY.out.cell (at7 (d := yd) hy)
      obtain ⟨o, ho⟩ := mixL_at (Z := tpL [x0, x1, x2, x3, x4, x5] [y0, y1, y2, y3, y4, y5] xd yd s) (O := zero6) (i := i) rfl hil
      have kz := HRZ.out.cell ho
      have fz := HRZ.out.frozen i
      have hset := mixL_set (Z := tpL [x0, x1, x2, x3, x4, x5] [y0, y1, y2, y3, y4, y5] xd yd s) (O := zero6) (i := i) rfl (zip_at hx hy)
      have HSET := Lib.hid hset
      have hilI : (i : Int) < 6 := by omega
      have hiI : (0 : Int) ≤ (i : Int) := by omega
      have p1 := mul_bd (A := 100000) (B := 1000) hxb (show -1000 ≤ yd ∧ yd ≤ 1000 by omega) (by omega)
      have p2 := mul_bd (A := 1) (B := 100000) hs hyb (by omega)
      have p3 := mul_bd (a := s * y) (A := 100000) (B := 1000) (by omega) (show -1000 ≤ xd ∧ xd ≤ 1000 by omega) (by omega)
      obtain ⟨P, hP⟩ : ∃ P, x * yd = P := ⟨_, rfl⟩
      obtain ⟨Q, hQ⟩ : ∃ Q, s * y = Q := ⟨_, rfl⟩
      rw [hP] at p1
      rw [hQ] at p2 p3
      obtain ⟨R, hR⟩ : ∃ R, Q * xd = R := ⟨_, rfl⟩
      rw [hR] at p3
      obtain ⟨T, hT⟩ : ∃ T, P + R = T := ⟨_, rfl⟩
      have hTZ : tpZ x y xd yd s = T := by unfold tpZ; rw [hP, hQ, hR, hT]
      have e1 : IntKind.i64.wrap P = P := IntWalk.i64_in _ (by omega)
      have e2 : IntKind.i64.wrap Q = Q := IntWalk.i64_in _ (by omega)
      have e3 : IntKind.i64.wrap R = R := IntWalk.i64_in _ (by omega)
      have e4 : IntKind.i64.wrap T = T := IntWalk.i64_in _ (by omega)
      have HTZ := Lib.hid hTZ
      have kp0 : (wr.setCell ⟨w.heap.size + 1 + 1, i, none⟩ (.int .i64 T)).drew.cell? ⟨w.heap.size, i, none⟩ = some (.int .i64 x) := (HRX.out.other (.int .i64 T) (by omega)).cell (at7 (d := xd) hx)
      have kp1 : (wr.setCell ⟨w.heap.size + 1 + 1, i, none⟩ (.int .i64 T)).drew.cell? ⟨w.heap.size, 6, none⟩ = some (.int .i64 xd) := (HRX.out.other (.int .i64 T) (by omega)).cell (i := 6) rfl
      have kp2 : (wr.setCell ⟨w.heap.size + 1 + 1, i, none⟩ (.int .i64 T)).drew.cell? ⟨w.heap.size + 1, i, none⟩ = some (.int .i64 y) := (HRY.out.other (.int .i64 T) (by omega)).cell (at7 (d := yd) hy)
      have kp3 : (wr.setCell ⟨w.heap.size + 1 + 1, i, none⟩ (.int .i64 T)).drew.cell? ⟨w.heap.size + 1, 6, none⟩ = some (.int .i64 yd) := (HRY.out.other (.int .i64 T) (by omega)).cell (i := 6) rfl
      clear hx hy ho hset hTZ
      go_wp2
      go_region_held3 (fun w' => w'.cell? ⟨w.heap.size, i, none⟩ = some (.int .i64 x) ∧ w'.cell? ⟨w.heap.size, 6, none⟩ = some (.int .i64 xd) ∧ w'.cell? ⟨w.heap.size + 1, i, none⟩ = some (.int .i64 y) ∧ w'.cell? ⟨w.heap.size + 1, 6, none⟩ = some (.int .i64 yd)) (first | (refine ⟨?_, ?_, ?_, ?_⟩ <;> with_reducible assumption) | go_keep) (fail)
      go_wp2
      refine ⟨⟨i + 1, by omega, by go_num, ?_, ?_, ?_, ?_⟩, by simp [intOf]; omega⟩
      · exact HRX.out.other _ (by omega)
      · exact HRY.out.other _ (by omega)
      · have h := HRZ.out.set i T
        rw [← HTZ.out, HSET.out, HTZ.out] at h
        exact h
      · exact (HB.out.setCell (by show w.heap.size ≤ w.heap.size + 1 + 1; omega) _).drew
    · obtain rfl : i = 6 := by omega
      have hl6 : mixL (tpL [x0, x1, x2, x3, x4, x5] [y0, y1, y2, y3, y4, y5] xd yd s) zero6 6 = [tpZ x0 y0 xd yd s, tpZ x1 y1 xd yd s, tpZ x2 y2 xd yd s, tpZ x3 y3 xd yd s, tpZ x4 y4 xd yd s, tpZ x5 y5 xd yd s] := rfl
      have hrow := HRZ.out
      rw [hl6] at hrow
      clear HRZ hl6
      generalize tpZ x0 y0 xd yd s = z0 at *
      generalize tpZ x1 y1 xd yd s = z1 at *
      generalize tpZ x2 y2 xd yd s = z2 at *
      generalize tpZ x3 y3 xd yd s = z3 at *
      generalize tpZ x4 y4 xd yd s = z4 at *
      generalize tpZ x5 y5 xd yd s = z5 at *
      have m0 := hrow.cell (i := 0) (x := z0) rfl
      have m1 := hrow.cell (i := 1) (x := z1) rfl
      have m2 := hrow.cell (i := 2) (x := z2) rfl
      have m3 := hrow.cell (i := 3) (x := z3) rfl
      have m4 := hrow.cell (i := 4) (x := z4) rfl
      have m5 := hrow.cell (i := 5) (x := z5) rfl
      have f0 := hrow.frozen 0
      have f1 := hrow.frozen 1
      have f2 := hrow.frozen 2
      have f3 := hrow.frozen 3
      have f4 := hrow.frozen 4
      have f5 := hrow.frozen 5
      have p1 := mul_bd (A := 1000) (B := 1000) (show -1000 ≤ xd ∧ xd ≤ 1000 by omega) (show -1000 ≤ yd ∧ yd ≤ 1000 by omega) (by omega)
      obtain ⟨D, hD⟩ : ∃ D, xd * yd = D := ⟨_, rfl⟩
      rw [hD] at p1
      have e1 : IntKind.i64.wrap D = D := IntWalk.i64_in _ (by omega)
      have k0 := putA_row hrow z0 z1 z2 z3 z4 z5
      have k1 := putA_other HRX.out (show w.heap.size ≠ w.heap.size + 1 + 1 by omega) z0 z1 z2 z3 z4 z5
      have k2 := putA_other HRY.out (show w.heap.size + 1 ≠ w.heap.size + 1 + 1 by omega) z0 z1 z2 z3 z4 z5
      have hk : (putA wr (w.heap.size + 1 + 1) z0 z1 z2 z3 z4 z5).drew.cell? ⟨w.heap.size + 1 + 1, 0, none⟩ = some (.int .i64 z0) ∧ (putA wr (w.heap.size + 1 + 1) z0 z1 z2 z3 z4 z5).drew.cell? ⟨w.heap.size + 1 + 1, 1, none⟩ = some (.int .i64 z1) ∧ (putA wr (w.heap.size + 1 + 1) z0 z1 z2 z3 z4 z5).drew.cell? ⟨w.heap.size + 1 + 1, 2, none⟩ = some (.int .i64 z2) ∧ (putA wr (w.heap.size + 1 + 1) z0 z1 z2 z3 z4 z5).drew.cell? ⟨w.heap.size + 1 + 1, 3, none⟩ = some (.int .i64 z3) ∧ (putA wr (w.heap.size + 1 + 1) z0 z1 z2 z3 z4 z5).drew.cell? ⟨w.heap.size + 1 + 1, 4, none⟩ = some (.int .i64 z4) ∧ (putA wr (w.heap.size + 1 + 1) z0 z1 z2 z3 z4 z5).drew.cell? ⟨w.heap.size + 1 + 1, 5, none⟩ = some (.int .i64 z5) ∧ (putA wr (w.heap.size + 1 + 1) z0 z1 z2 z3 z4 z5).drew.cell? ⟨w.heap.size, 6, none⟩ = some (.int .i64 xd) ∧ (putA wr (w.heap.size + 1 + 1) z0 z1 z2 z3 z4 z5).drew.cell? ⟨w.heap.size + 1, 6, none⟩ = some (.int .i64 yd) :=
        ⟨k0.drew.cell (i := 0) (x := z0) rfl, k0.drew.cell (i := 1) (x := z1) rfl, k0.drew.cell (i := 2) (x := z2) rfl, k0.drew.cell (i := 3) (x := z3) rfl, k0.drew.cell (i := 4) (x := z4) rfl, k0.drew.cell (i := 5) (x := z5) rfl, k1.drew.cell (i := 6) (x := xd) rfl, k2.drew.cell (i := 6) (x := yd) rfl⟩
      unfold putA at hk
      have HK := Lib.hid hk
      clear hk
      have HK0 := Lib.hid k0
      have hb6 := putA_below HB.out (show w.heap.size ≤ w.heap.size + 1 + 1 by omega) z0 z1 z2 z3 z4 z5
      have HB6 := Lib.hid hb6
      clear k0 k1 k2 hrow hb6
      go_wp2
      go_region_held3 (fun w' => w'.cell? ⟨w.heap.size + 1 + 1, 0, none⟩ = some (.int .i64 z0) ∧ w'.cell? ⟨w.heap.size + 1 + 1, 1, none⟩ = some (.int .i64 z1) ∧ w'.cell? ⟨w.heap.size + 1 + 1, 2, none⟩ = some (.int .i64 z2) ∧ w'.cell? ⟨w.heap.size + 1 + 1, 3, none⟩ = some (.int .i64 z3) ∧ w'.cell? ⟨w.heap.size + 1 + 1, 4, none⟩ = some (.int .i64 z4) ∧ w'.cell? ⟨w.heap.size + 1 + 1, 5, none⟩ = some (.int .i64 z5) ∧ w'.cell? ⟨w.heap.size, 6, none⟩ = some (.int .i64 xd) ∧ w'.cell? ⟨w.heap.size + 1, 6, none⟩ = some (.int .i64 yd)) (first | with_reducible exact HK.out | go_keep) (fail)
      clear m0 m1 m2 m3 m4 m5 f0 f1 f2 f3 f4 f5 kxd kyd
      go_wp2
      change bodyPost _ _ _ _ _ (putA wr (w.heap.size + 1 + 1) z0 z1 z2 z3 z4 z5).drew
      have k0 := HK0.out.drew
      have hB := HB6.out.drew
      clear HK0 HB6 HK
      generalize (putA wr (w.heap.size + 1 + 1) z0 z1 z2 z3 z4 z5).drew = W' at *
      have c0 := k0.cell (i := 0) (x := z0) rfl
      have c1 := k0.cell (i := 1) (x := z1) rfl
      have c2 := k0.cell (i := 2) (x := z2) rfl
      have c3 := k0.cell (i := 3) (x := z3) rfl
      have c4 := k0.cell (i := 4) (x := z4) rfl
      have c5 := k0.cell (i := 5) (x := z5) rfl
      refine bodyPost_ret (v := .tuple #[.agg #[.int .i64 z0, .int .i64 z1, .int .i64 z2, .int .i64 z3, .int .i64 z4, .int .i64 z5], .int .i64 D]) (by simp [results, Tryd.results85, c0, c1, c2, c3, c4, c5, go_sem]) rfl ⟨?_, hB⟩
      rw [hD]
end Go.Proofs.YtlmcafcebidliaaDoor
