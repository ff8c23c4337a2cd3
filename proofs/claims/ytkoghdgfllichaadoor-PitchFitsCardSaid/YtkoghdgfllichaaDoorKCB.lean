import Derived.Test.YtkoghdgfllichaaDoorKCA
import Derived.Test.YtkoghdgfllichaaDoorRO1
namespace Go.Proofs.YtkoghdgfllichaaDoor
open Go.RowKit

theorem nz_A : ∀ l : List (Nat × Int), wA (nz l) ≤ wA l ∧ nA (nz l) ≤ nA l
  | [] => ⟨Nat.le_refl _, Nat.le_refl _⟩
  | x :: r => by
    obtain ⟨h1, h2⟩ := nz_A r
    by_cases h : x.2 = 0
    · have e : nz (x :: r) = nz r := by unfold nz; rw [List.filter_cons, if_neg (by simp [h])]
      rw [e]
      exact ⟨Nat.le_trans h1 (Nat.le_add_left _ _), Nat.le_trans h2 (Nat.le_add_left _ _)⟩
    · have e : nz (x :: r) = x :: nz r := by unfold nz; rw [List.filter_cons, if_pos (by simp [h])]
      rw [e]
      exact ⟨Nat.add_le_add_left h1 _, Nat.add_le_add_left h2 _⟩
theorem nz_sign {v : V6} (h : ∀ n ∈ v.l, n.natAbs ≤ 200000000) : SignOk (nz v.zl) 30 := by
  have h1 := sums6 h
  obtain ⟨h2, h3⟩ := nz_A v.zl
  have hk : (64 : Nat) * 2 ^ 30 - 2 = 68719476734 := by decide
  have hl : (nz v.zl).length ≤ 6 := by
    refine Nat.le_trans (nz_len _) ?_
    unfold V6.zl V6.l ps6
    simp
  exact SignOk.of (fun x hx => by have := (zl_mem hx).1; omega) (by omega) (by omega) (by omega) (by omega) (by omega)
theorem tpZ_bd2 {x y xd yd s : Int} (hx : -100000 ≤ x ∧ x ≤ 100000) (hy : -100000 ≤ y ∧ y ≤ 100000) (hxd : 1 ≤ xd ∧ xd ≤ 1000) (hyd : 1 ≤ yd ∧ yd ≤ 1000) (hs : -1 ≤ s ∧ s ≤ 1) : (tpZ x y xd yd s).natAbs ≤ 200000000 := by
  have p1 := mul_bd (A := 100000) (B := 1000) hx (show -1000 ≤ yd ∧ yd ≤ 1000 by omega) (by omega)
  have p2 := mul_bd (A := 1) (B := 100000) hs hy (by omega)
  have p3 := mul_bd (a := s * y) (A := 100000) (B := 1000) (by omega) (show -1000 ≤ xd ∧ xd ≤ 1000 by omega) (by omega)
  unfold tpZ
  omega
def cmpW (x y : Rt) : Int × Int := if x.err = 0 then (if y.err = 0 then (Sg (timesW x y (-1)).1, 0) else (0, y.err)) else (0, x.err)
def CmPost (w : World) (r : Int × Int) (e : Ending) (w' : World) : Prop := e = .returned (.tuple #[.int .i64 r.1, .int .i64 r.2]) ∧ Below w.heap.size w w'
set_option maxRecDepth 100000 in
set_option maxHeartbeats 1000000 in
theorem Cmp_any (x0 x1 x2 x3 x4 x5 xd y0 y1 y2 y3 y4 y5 yd : Int) (w : World) (hp : PrL w) :
    Calls Tryd.prog 8 #[.agg #[.int .i64 x0, .int .i64 x1, .int .i64 x2, .int .i64 x3, .int .i64 x4, .int .i64 x5, .int .i64 xd], .agg #[.int .i64 y0, .int .i64 y1, .int .i64 y2, .int .i64 y3, .int .i64 y4, .int .i64 y5, .int .i64 yd]] w (CmPost w (cmpW ⟨⟨x0, x1, x2, x3, x4, x5⟩, xd⟩ ⟨⟨y0, y1, y2, y3, y4, y5⟩, yd⟩)) := by
  have hT : timesW ⟨⟨x0, x1, x2, x3, x4, x5⟩, xd⟩ ⟨⟨y0, y1, y2, y3, y4, y5⟩, yd⟩ (-1) = (⟨tpZ x0 y0 xd yd (-1), tpZ x1 y1 xd yd (-1), tpZ x2 y2 xd yd (-1), tpZ x3 y3 xd yd (-1), tpZ x4 y4 xd yd (-1), tpZ x5 y5 xd yd (-1)⟩, xd * yd) := by
    unfold timesW
    refine Prod.ext (V6.eq ?_ ?_ ?_ ?_ ?_ ?_) rfl <;> simp only [V6.scl, V6.add, tpZ] <;> grind
  have hW : cmpW ⟨⟨x0, x1, x2, x3, x4, x5⟩, xd⟩ ⟨⟨y0, y1, y2, y3, y4, y5⟩, yd⟩ = if Rt.err ⟨⟨x0, x1, x2, x3, x4, x5⟩, xd⟩ = 0 then (if Rt.err ⟨⟨y0, y1, y2, y3, y4, y5⟩, yd⟩ = 0 then (Sg ⟨tpZ x0 y0 xd yd (-1), tpZ x1 y1 xd yd (-1), tpZ x2 y2 xd yd (-1), tpZ x3 y3 xd yd (-1), tpZ x4 y4 xd yd (-1), tpZ x5 y5 xd yd (-1)⟩, 0) else (0, Rt.err ⟨⟨y0, y1, y2, y3, y4, y5⟩, yd⟩)) else (0, Rt.err ⟨⟨x0, x1, x2, x3, x4, x5⟩, xd⟩) := by
    unfold cmpW
    rw [hT]
  have hE := exR_two ⟨⟨x0, x1, x2, x3, x4, x5⟩, xd⟩ ⟨⟨y0, y1, y2, y3, y4, y5⟩, yd⟩
  have hokx := fun h => (Rt.ok_iff (r := ⟨⟨x0, x1, x2, x3, x4, x5⟩, xd⟩)).1 h
  have hoky := fun h => (Rt.ok_iff (r := ⟨⟨y0, y1, y2, y3, y4, y5⟩, yd⟩)).1 h
  have hex := fun (W : World) (g : Nat) (h : W.heap[g]? = some (.cells (cellsR ⟨⟨x0, x1, x2, x3, x4, x5⟩, xd⟩ ++ cellsR ⟨⟨y0, y1, y2, y3, y4, y5⟩, yd⟩).toArray 24 (0, 0))) => examineR_any g [⟨⟨x0, x1, x2, x3, x4, x5⟩, xd⟩, ⟨⟨y0, y1, y2, y3, y4, y5⟩, yd⟩] W (Array.getElem?_eq_some_iff.1 h).1 (cell_two h) (by simp)
  rw [hE] at hex
  have HEX := Lib.hid hex
  have HOX := Lib.hid hokx
  have HOY := Lib.hid hoky
  have HP := Lib.hid hp
  clear hex hT hE hokx hoky hp
  generalize cmpW ⟨⟨x0, x1, x2, x3, x4, x5⟩, xd⟩ ⟨⟨y0, y1, y2, y3, y4, y5⟩, yd⟩ = RW at *
  have HW := Lib.hid hW
  clear hW
  generalize hex : Rt.err ⟨⟨x0, x1, x2, x3, x4, x5⟩, xd⟩ = ex at *
  generalize hey : Rt.err ⟨⟨y0, y1, y2, y3, y4, y5⟩, yd⟩ = ey at *
  clear hex hey
  generalize hEE : (if ex = 0 then ey else ex) = E at HEX
  have HEE := Lib.hid hEE
  clear hEE
  go_enter Tryd.func8, Tryd.ntmps8
  have hr1 : RowI ((w.alloc (.cells #[.int .i64 x0, .int .i64 x1, .int .i64 x2, .int .i64 x3, .int .i64 x4, .int .i64 x5, .int .i64 xd] 24)).alloc (.cells #[.int .i64 y0, .int .i64 y1, .int .i64 y2, .int .i64 y3, .int .i64 y4, .int .i64 y5, .int .i64 yd] 24)) w.heap.size 24 [x0, x1, x2, x3, x4, x5, xd] := (RowI.of_alloc w 24 [x0, x1, x2, x3, x4, x5, xd]).alloc _
  have hr2 : RowI ((w.alloc (.cells #[.int .i64 x0, .int .i64 x1, .int .i64 x2, .int .i64 x3, .int .i64 x4, .int .i64 x5, .int .i64 xd] 24)).alloc (.cells #[.int .i64 y0, .int .i64 y1, .int .i64 y2, .int .i64 y3, .int .i64 y4, .int .i64 y5, .int .i64 yd] 24)) (w.heap.size + 1) 24 [y0, y1, y2, y3, y4, y5, yd] := by
    have h := RowI.of_alloc (w.alloc (.cells #[.int .i64 x0, .int .i64 x1, .int .i64 x2, .int .i64 x3, .int .i64 x4, .int .i64 x5, .int .i64 xd] 24)) 24 [y0, y1, y2, y3, y4, y5, yd]
    rw [World.size_alloc] at h
    exact h
  have hb0 := (belA w (.cells #[.int .i64 x0, .int .i64 x1, .int .i64 x2, .int .i64 x3, .int .i64 x4, .int .i64 x5, .int .i64 xd] 24)).alloc (by simp) (.cells #[.int .i64 y0, .int .i64 y1, .int .i64 y2, .int .i64 y3, .int .i64 y4, .int .i64 y5, .int .i64 yd] 24)
  have HR1 := Lib.hid hr1
  have HR2 := Lib.hid hr2
  have HB0 := Lib.hid hb0
  clear hr1 hr2 hb0
  go_wp2_with fail
  refine (HEX.out _ _ (by have h := heap_alloc_new ((w.alloc (.cells #[.int .i64 x0, .int .i64 x1, .int .i64 x2, .int .i64 x3, .int .i64 x4, .int .i64 x5, .int .i64 xd] 24)).alloc (.cells #[.int .i64 y0, .int .i64 y1, .int .i64 y2, .int .i64 y3, .int .i64 y4, .int .i64 y5, .int .i64 yd] 24)) (.cells (cellsR ⟨⟨x0, x1, x2, x3, x4, x5⟩, xd⟩ ++ cellsR ⟨⟨y0, y1, y2, y3, y4, y5⟩, yd⟩).toArray 24); rw [World.size_alloc, World.size_alloc] at h; exact h)).mono ?_
  rintro e w1 ⟨he, hb1⟩
  subst he
  have hb1' := (belA ((w.alloc (.cells #[.int .i64 x0, .int .i64 x1, .int .i64 x2, .int .i64 x3, .int .i64 x4, .int .i64 x5, .int .i64 xd] 24)).alloc (.cells #[.int .i64 y0, .int .i64 y1, .int .i64 y2, .int .i64 y3, .int .i64 y4, .int .i64 y5, .int .i64 yd] 24)) _).trans (hb1.mono (by simp))
  have hr1 := HR1.out.up hb1'
  have hr2 := HR2.out.up hb1'
  have hb := HB0.out.trans (hb1'.mono (by simp; omega))
  clear HR1 HR2 HB0 hb1 hb1' HEX
  have HR1 := Lib.hid hr1
  have HR2 := Lib.hid hr2
  have HB := Lib.hid hb
  have hz := hb.size
  clear hr1 hr2 hb
  by_cases hE0 : E = 0
  · subst hE0
    have hx0 : ex = 0 := by
      have h := HEE.out
      by_cases h0 : ex = 0
      · exact h0
      · rw [if_neg h0] at h; exact h
    have hy0 : ey = 0 := by
      have h := HEE.out
      rw [if_pos hx0] at h; exact h
    have okx := HOX.out hx0
    have oky := HOY.out hy0
    obtain ⟨bx0, bx1, bx2, bx3, bx4, bx5, bxd⟩ := okx.nums
    obtain ⟨by0, by1, by2, by3, by4, by5, byd⟩ := oky.nums
    simp only at bx0 bx1 bx2 bx3 bx4 bx5 bxd by0 by1 by2 by3 by4 by5 byd
    have hWE : RW = (Sg ⟨tpZ x0 y0 xd yd (-1), tpZ x1 y1 xd yd (-1), tpZ x2 y2 xd yd (-1), tpZ x3 y3 xd yd (-1), tpZ x4 y4 xd yd (-1), tpZ x5 y5 xd yd (-1)⟩, 0) := by
      have h := HW.out
      rw [if_pos hx0, if_pos hy0] at h
      exact h
    have hxl : ∀ n ∈ [x0, x1, x2, x3, x4, x5], -100000 ≤ n ∧ n ≤ 100000 := by
      simp only [List.mem_cons, List.not_mem_nil, or_false, forall_eq_or_imp, forall_eq]
      exact ⟨bx0, bx1, bx2, bx3, bx4, bx5⟩
    have hyl : ∀ n ∈ [y0, y1, y2, y3, y4, y5], -100000 ≤ n ∧ n ≤ 100000 := by
      simp only [List.mem_cons, List.not_mem_nil, or_false, forall_eq_or_imp, forall_eq]
      exact ⟨by0, by1, by2, by3, by4, by5⟩
    have htp := fun W => timesPower_any x0 x1 x2 x3 x4 x5 xd y0 y1 y2 y3 y4 y5 yd (-1) W hxl hyl bxd byd (by omega)
    have hzl : ∀ n ∈ V6.l ⟨tpZ x0 y0 xd yd (-1), tpZ x1 y1 xd yd (-1), tpZ x2 y2 xd yd (-1), tpZ x3 y3 xd yd (-1), tpZ x4 y4 xd yd (-1), tpZ x5 y5 xd yd (-1)⟩, n.natAbs ≤ 200000000 := by
      unfold V6.l
      simp only [List.mem_cons, List.not_mem_nil, or_false, forall_eq_or_imp, forall_eq]
      exact ⟨tpZ_bd2 bx0 by0 bxd byd (by omega), tpZ_bd2 bx1 by1 bxd byd (by omega), tpZ_bd2 bx2 by2 bxd byd (by omega), tpZ_bd2 bx3 by3 bxd byd (by omega), tpZ_bd2 bx4 by4 bxd byd (by omega), tpZ_bd2 bx5 by5 bxd byd (by omega)⟩
    have hsg := fun (v : Value) (W : World) (hv : TmC W W.heap.size v (nz (V6.zl ⟨tpZ x0 y0 xd yd (-1), tpZ x1 y1 xd yd (-1), tpZ x2 y2 xd yd (-1), tpZ x3 y3 xd yd (-1), tpZ x4 y4 xd yd (-1), tpZ x5 y5 xd yd (-1)⟩))) => sign_any v _ 30 W hv (nz_sign hzl)
    rw [sgn_nz] at hsg
    have hpo := fun (W : World) (h : PrL W) => powersOf_any (tpZ x0 y0 xd yd (-1)) (tpZ x1 y1 xd yd (-1)) (tpZ x2 y2 xd yd (-1)) (tpZ x3 y3 xd yd (-1)) (tpZ x4 y4 xd yd (-1)) (tpZ x5 y5 xd yd (-1)) W h
    obtain ⟨c0, c1, c2, c3, c4, c5, c6⟩ := HR1.out.r7
    obtain ⟨d0, d1, d2, d3, d4, d5, d6⟩ := HR2.out.r7
    simp only [Nat.zero_add] at c0 c1 c2 c3 c4 c5 c6 d0 d1 d2 d3 d4 d5 d6
    have HTP := Lib.hid htp
    have HSG := Lib.hid hsg
    have HPO := Lib.hid hpo
    have HWE := Lib.hid hWE
    clear htp hsg hpo hWE hx0 hy0 okx oky bx0 bx1 bx2 bx3 bx4 bx5 bxd by0 by1 by2 by3 by4 by5 byd hxl hyl hzl HW
    generalize tpZ x0 y0 xd yd (-1) = z0 at *
    generalize tpZ x1 y1 xd yd (-1) = z1 at *
    generalize tpZ x2 y2 xd yd (-1) = z2 at *
    generalize tpZ x3 y3 xd yd (-1) = z3 at *
    generalize tpZ x4 y4 xd yd (-1) = z4 at *
    generalize tpZ x5 y5 xd yd (-1) = z5 at *
    generalize xd * yd = zd at *
    go_wp2_with fail
    refine (HTP.out _).mono ?_
    rintro e w2 ⟨he, hb2⟩
    subst he
    have hb := HB.out.trans (hb2.mono hz)
    have hz2 := hb.size
    clear HR1 HR2 HB HTP c0 c1 c2 c3 c4 c5 c6 d0 d1 d2 d3 d4 d5 d6 hb2
    have HB := Lib.hid hb
    have hbA := belA w2 (.cells #[.int .i64 z0, .int .i64 z1, .int .i64 z2, .int .i64 z3, .int .i64 z4, .int .i64 z5] 22)
    have hpr := HP.out.below (hb.trans (hbA.mono hz2))
    have HPR := Lib.hid hpr
    have HBA := Lib.hid (hb.trans (hbA.mono hz2))
    clear hb hpr hbA
    go_wp2_with fail
    refine (HPO.out _ HPR.out).mono ?_
    rintro e w3 ⟨v, he, hrow, hb3⟩
    subst he
    have hb := HBA.out.trans (hb3.mono (by simp; omega))
    have hz3 := hb.size
    have HS2 := Lib.hid (HSG.out v w3 hrow.tmc)
    have HB3 := Lib.hid hb
    clear hb hb3 hrow HSG HPO HPR HBA
    go_wp2_with fail
    refine (HS2.out).mono ?_
    rintro e w4 ⟨he, hb4⟩
    subst he
    have HB4 := Lib.hid (HB3.out.trans (hb4.mono hz3))
    clear hb4
    go_wp2
    go_ret2
    exact ⟨by rw [HWE.out]; rfl, HB4.out⟩
  · have hEb : (E != 0) = true := by simp [hE0]
    have hWE : RW = (0, E) := by
      have h := HW.out
      have h2 := HEE.out
      by_cases h0 : ex = 0
      · rw [if_pos h0] at h h2
        subst h2
        rw [if_neg hE0] at h
        exact h
      · rw [if_neg h0] at h h2
        subst h2
        exact h
    have HWE := Lib.hid hWE
    clear hWE HW hE0
    go_wp2
    go_ret2
    exact ⟨by rw [HWE.out]; rfl, HB.out⟩
end Go.Proofs.YtkoghdgfllichaaDoor
namespace Go.Proofs.YtkoghdgfllichaaDoor
open Go.RowKit

theorem st_le {p n : Nat} (hp : 2 ≤ p) (hn : n ≠ 0) : (st p n).2 + (st p n).1 ≤ n := by
  induction n using Nat.strongRecOn with
  | _ n ih =>
    by_cases h : n % p = 0
    · have hlt : n / p < n := Nat.div_lt_self (by omega) (by omega)
      have hd : n / p ≠ 0 := by
        intro h0
        have := Nat.div_add_mod n p
        rw [h0, h] at this; simp at this; omega
      have := ih (n / p) hlt hd
      rw [st_hit hp hn h]
      show (st p (n / p)).2 + 1 + (st p (n / p)).1 ≤ n
      omega
    · rw [st_miss h]; show 0 + n ≤ n; omega
def ToRel (n p : Nat) (nv tv : Value) : Prop :=
  ∃ m t : Nat, nv = .int .i64 (m : Int) ∧ tv = .int .i64 (t : Int) ∧ 1 ≤ m ∧ t + m ≤ n ∧ st p n = ((st p m).1, (st p m).2 + t)
set_option maxRecDepth 100000 in
set_option maxHeartbeats 400000 in
theorem takeOut_any (n p : Nat) (w : World) (hn : 1 ≤ n) (hn2 : n ≤ 1000000000000) (hp : 2 ≤ p) (hp2 : p ≤ 13) :
    Calls Tryd.prog 121 #[.int .i64 (n : Int), .int .i64 (p : Int)] w fun e w' => e = .returned (.tuple #[.int .i64 (((st p n).1 : Nat) : Int), .int .i64 (((st p n).2 : Nat) : Int)]) ∧ w = w' := by
  go_enter Tryd.func121, Tryd.ntmps121
  go_wp2
  go_loop [0, 5] (fun nv tv => ToRel n p nv tv) (fun nv _ => (intOf nv).toNat)
  case atStart => exact ⟨n, 0, rfl, rfl, hn, by omega, rfl⟩
  case round =>
    obtain ⟨m, t, rfl, rfl, hm1, hm2, hst⟩ := hrel
    have HST := Lib.hid hst
    clear hst
    have hp0 : ¬ p = 0 := by omega
    have hpI : ¬ (p : Int) = 0 := by omega
    have hpB : ((p : Int) == 0) = false := beq_false_of_ne hpI
    by_cases h : m % p = 0
    · have hr : (m : Int) % (p : Int) = 0 := by rw [← Int.natCast_emod, h]; rfl
      obtain ⟨q, hq⟩ : ∃ q, q = m / p := ⟨_, rfl⟩
      have hqI : (m : Int) / (p : Int) = (q : Int) := by rw [hq]; exact (Int.natCast_ediv m p).symm
      have hlt : q < m := by rw [hq]; exact Nat.div_lt_self (by omega) (by omega)
      have hq0 : q ≠ 0 := by
        intro h0
        have := Nat.div_add_mod m p
        rw [← hq, h0, h] at this; simp at this; omega
      have hs2 : st p m = ((st p q).1, (st p q).2 + 1) := by rw [hq]; exact st_hit hp (by omega) h
      have HS2 := Lib.hid hs2
      clear hs2 hq h
      go_wp2
      refine ⟨⟨q, t + 1, rfl, by go_num, by omega, by omega, ?_⟩, by simp [intOf]; omega⟩
      rw [HST.out, HS2.out]
      show ((st p q).1, (st p q).2 + 1 + t) = ((st p q).1, (st p q).2 + (t + 1))
      rw [Nat.add_assoc, Nat.add_comm 1 t]
    · obtain ⟨r, hr⟩ : ∃ r : Nat, r = m % p := ⟨_, rfl⟩
      have hrI : (m : Int) % (p : Int) = (r : Int) := by rw [hr]; exact (Int.natCast_emod m p).symm
      have hr0 : ¬ (r : Int) = 0 := by rw [hr]; omega
      have hs2 : st p m = (m, 0) := st_miss h
      have HS2 := Lib.hid hs2
      clear hs2 hr h
      go_wp2
      go_ret2
      refine ⟨?_, rfl⟩
      rw [HST.out, HS2.out]
      simp
end Go.Proofs.YtkoghdgfllichaaDoor
