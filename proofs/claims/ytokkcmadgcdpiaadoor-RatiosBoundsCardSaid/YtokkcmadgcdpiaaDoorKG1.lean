import Derived.Test.YtokkcmadgcdpiaaDoorKG0
import Derived.Test.YtokkcmadgcdpiaaDoorUWC
namespace Go.Proofs.YtokkcmadgcdpiaaDoor
open Go.RowKit

/-! The law's products. -/
theorem dg512' {n k : Nat} (c : Nat) (h : n ≤ 2 ^ k) (hk : k < c * 512) (hc : c = 32 := by rfl) : (Wd.dg n).length ≤ 512 := by
  refine Wd.len_two ?_
  rw [← hc]
  exact Nat.lt_of_le_of_lt h (Nat.pow_lt_pow_right (by omega) hk)
theorem dg512 {n k : Nat} (h : n ≤ 2 ^ k) (hk : k ≤ 16383) : (Wd.dg n).length ≤ 512 :=
  dg512' 32 h (by omega)
theorem posT {l : List (Int × Int)} (h : szOk l) (s : Int) : posN (scL s (natT l)) := by
  intro x hx
  simp only [scL, natT, List.mem_map, List.map_map] at hx
  obtain ⟨y, hy, rfl⟩ := hx
  have := (h y hy).1
  simp only [Function.comp]
  omega
theorem scL_app (s : Int) (a b : List (Int × Int)) : scL s (natT (a ++ b)) = scL s (natT a) ++ scL s (natT b) := by simp [scL, natT]
theorem allP_sc (s : Nat) : ∀ l : List (Nat × Int), allP (scL s l) = allP l ^ s := fun l => by
  rw [← allP_parts, ← allP_parts, (scL_P s l).1, (scL_P s l).2, Nat.mul_pow]
/-- The parts of the product of a list's start. -/
theorem take_le {l : List (Int × Int)} (h : szOk l) (s : Int) (i : Nat) : upP (scL s (natT (l.take i))) ≤ allP (scL s (natT l)) ∧ dnP (scL s (natT (l.take i))) ≤ allP (scL s (natT l)) := by
  have ht : szOk (l.take i) := fun x hx => h x (List.mem_of_mem_take hx)
  have hd : szOk (l.drop i) := fun x hx => h x (List.mem_of_mem_drop hx)
  have e : allP (scL s (natT l)) = allP (scL s (natT (l.take i))) * allP (scL s (natT (l.drop i))) := by
    rw [← allP_append, ← scL_app, List.take_append_drop]
  have hp := allP_pos (posT hd s)
  rw [e]
  exact ⟨Nat.le_trans (up_le_all (posT ht s)) (Nat.le_mul_of_pos_right _ hp), Nat.le_trans (dn_le_all (posT ht s)) (Nat.le_mul_of_pos_right _ hp)⟩
theorem snoc_up {l : List (Int × Int)} (s : Int) {i : Nat} {m : Nat} {a : Int} (hx : l[i]? = some ((m : Int), a)) : upP (scL s (natT (l.take (i + 1)))) = upP (scL s (natT (l.take i))) * m ^ (a * s).toNat ∧ dnP (scL s (natT (l.take (i + 1)))) = dnP (scL s (natT (l.take i))) * m ^ (-(a * s)).toNat := by
  rw [List.take_add_one, hx, scL_app, upP_append, dnP_append]
  constructor
  · show _ * (m ^ (a * s).toNat * 1) = _
    rw [Nat.mul_one]
  · show _ * (m ^ (-(a * s)).toNat * 1) = _
    rw [Nat.mul_one]
def PdRel (w : World) (n : Nat) (l : List (Int × Int)) (s : Int) (uv dv iv : Value) (wr : World) : Prop :=
  ∃ i U D : Nat, i ≤ n ∧ iv = .int .i64 (i : Int) ∧ U = upP (scL s (natT (l.take i))) ∧ D = dnP (scL s (natT (l.take i))) ∧ Wd.Arg wr uv (Wd.dg U) ∧ Wd.Arg wr dv (Wd.dg D) ∧ Below w.heap.size w wr
theorem nOf (m : Nat) (hm : m ≤ 1000000000001) (W : World) : Calls Tryd.prog 42 #[.int .u64 (m : Int)] W fun e w' => ∃ v, e = .returned v ∧ Wd.Arg w' v (Wd.dg m) ∧ Below W.heap.size W w' :=
  (Wd.of_any m (by omega) W).mono fun _ _ ⟨v, he, h1, hb⟩ => ⟨v, he, Wd.num_arg h1 _ rfl (Nat.le_trans (dg512 (k := 40) (Nat.le_trans hm (by decide)) (by omega)) (by omega)), hb⟩
set_option maxRecDepth 100000 in
set_option maxHeartbeats 4000000 in
theorem products_any (A : Option Addr) (n cap : Nat) (l : List (Int × Int)) (s : Nat) (w : World) (hv : TmI w w.heap.size (.slice A n cap) l) (hn : n ≤ 6) (hok : szOk l) (_hs : 1 ≤ s) (_hs2 : s ≤ 1000000)
    (hx : ∀ x ∈ l, x.2.natAbs * s ≤ 8000) (hall : allP (scL s (natT l)) ≤ 2 ^ 8000) :
    Calls Tryd.prog 39 #[.slice A n cap, .int .i64 (s : Int)] w fun e w' => ∃ u d, e = .returned (.tuple #[u, d, .bool true]) ∧ Wd.Arg w' u (Wd.dg (upP (scL s (natT l)))) ∧ Wd.Arg w' d (Wd.dg (dnP (scL s (natT l)))) ∧ Below w.heap.size w w' := by
  obtain ⟨A', cap', e, hcap, -⟩ := id hv
  have hln : n = l.length := by cases e; rfl
  have hle := take_le hok s
  have hle2 : ∀ i, upP (scL s (natT (l.take i))) ≤ 2 ^ 8000 ∧ dnP (scL s (natT (l.take i))) ≤ 2 ^ 8000 := fun i => ⟨Nat.le_trans (hle i).1 hall, Nat.le_trans (hle i).2 hall⟩
  have HV := Lib.hid hv
  have HOK := Lib.hid hok
  have HX6 := Lib.hid hx
  have HLE := Lib.hid hle2
  have HALL := Lib.hid hall
  clear hv hok hx hle hle2 hall e hcap
  go_enter Tryd.func39, Tryd.ntmps39
  go_wp2_with fail
  refine (Wd.nOne _).mono ?_
  rintro e w1 ⟨u0, he, hu, hb⟩
  subst he
  have HU := Lib.hid hu
  have HB := Lib.hid hb
  clear hu hb
  go_wp2_with fail
  refine (Wd.nOne _).mono ?_
  rintro e w2 ⟨d0, he, hd, hb2⟩
  subst he
  have hu := HU.out.up hb2
  have hb := HB.out.trans (hb2.mono HB.out.size)
  clear HU HB
  have HU := Lib.hid hu
  have HD := Lib.hid hd
  have HB := Lib.hid hb
  clear hu hd hb hb2
  go_wp2
  go_loopw [7, 8, 9] (fun uv dv iv wr => PdRel w n l s uv dv iv wr) (fun _ _ iv _ => n - (intOf iv).toNat)
  case atStart => exact ⟨0, 1, 1, Nat.zero_le _, rfl, rfl, rfl, HU.out, HD.out, HB.out⟩
  case round =>
    clear HU HD HB
    obtain ⟨i, U, D, hi, rfl, hUe, hDe, hu, hd, hb⟩ := hrel
    have HUE := Lib.hid hUe
    have HDE := Lib.hid hDe
    have HU := Lib.hid hu
    have HD := Lib.hid hd
    have HB := Lib.hid hb
    clear hUe hDe hu hd hb
    by_cases hil : i < n
    · have hilI : (i : Int) < (n : Int) := by omega
      obtain ⟨x, hx⟩ : ∃ x, l[i]? = some x := ⟨l[i]'(by omega), List.getElem?_eq_getElem _⟩
      obtain ⟨A', cap', e, -, hh⟩ := HV.out.keep HB.out
      cases e
      obtain ⟨g, o, rfl, hg, hcells⟩ := hh (by intro e; rw [e] at hil; exact absurd hil (Nat.not_lt_zero _))
      obtain ⟨c0, c1⟩ := hcells i x hx
      have hxm := List.mem_of_getElem? hx
      obtain ⟨q1, q2, q3, q4⟩ := HOK.out x hxm
      have q5 := HX6.out x hxm
      obtain ⟨p, a⟩ := x
      obtain ⟨m, rfl⟩ := Int.eq_ofNat_of_zero_le (show 0 ≤ p by simp only at q1; omega)
      simp only at c0 c1 q1 q2 q3 q4 q5
      obtain ⟨hun, hdn⟩ := snoc_up (s : Int) hx
      obtain ⟨c, hc⟩ : ∃ c : Int, a * (s : Int) = c := ⟨_, rfl⟩
      have hca : c.natAbs = a.natAbs * s := by rw [← hc, Int.natAbs_mul]; rfl
      have hcb : c.natAbs ≤ 8000 := by omega
      have e1 : IntKind.i64.wrap c = c := IntWalk.i64_in _ (by omega)
      have e2 : IntKind.u64.wrap (m : Int) = (m : Int) := IntWalk.u64_in _ (by omega)
      rw [hc, ← HUE.out] at hun
      rw [hc, ← HDE.out] at hdn
      have hlU := HLE.out (i + 1)
      rw [hun, hdn] at hlU
      have hpow : m ^ c.natAbs ≤ 2 ^ 8000 := by
        rcases Int.lt_or_le 0 c with h | h
        · have h1 := hlU.1
          have h2 : 0 < U := by rw [HUE.out]; exact upP_pos' (posT (fun y hy => HOK.out y (List.mem_of_mem_take hy)) _)
          rw [show c.toNat = c.natAbs by omega] at h1
          exact Nat.le_trans (Nat.le_mul_of_pos_left _ h2) h1
        · have h1 := hlU.2
          have h2 : 0 < D := by rw [HDE.out]; exact dnP_pos' (posT (fun y hy => HOK.out y (List.mem_of_mem_take hy)) _)
          rw [show (-c).toNat = c.natAbs by omega] at h1
          exact Nat.le_trans (Nat.le_mul_of_pos_left _ h2) h1
      have HPW := Lib.hid hpow
      have HUN := Lib.hid hun
      have HDN := Lib.hid hdn
      have HLU := Lib.hid hlU
      have HX := Lib.hid hx
      have HQ := Lib.hid (And.intro q1 q2)
      clear hx hh hcells hxm q5 hun hdn hpow hlU
      go_wp2_with fail
      refine (nOf m (by have := HQ.out; omega) _).mono ?_
      rintro e w3 ⟨vb, he, hvb, hb⟩
      subst he
      have tHU := HU.out.up hb
      have tHD := HD.out.up hb
      have tB := HB.out.trans (hb.mono HB.out.size)
      clear HU HD HB hb
      have HU := Lib.hid tHU
      have HD := Lib.hid tHD
      have HB := Lib.hid tB
      clear tB tHU tHD
      have HM := Lib.hid hvb
      clear hvb
      go_wp2_with fail
      have g1 : (Wd.dg m).length ≤ 512 := dg512 (k := 40) (Nat.le_trans (show m ≤ 1000000 by have := HQ.out; omega) (by decide)) (by omega)
      have g2 : (Wd.dg (m ^ c.natAbs)).length ≤ 512 := dg512 HPW.out (by omega)
      have g3 : c.natAbs ≤ 20000 := by omega
      have em : max c (-c) = ((c.natAbs : Nat) : Int) := by omega
      rw [em]
      refine (Wd.nPow (k := c.natAbs) HM.out g1 g3 g2).mono ?_
      clear g1 g2 g3 em
      rintro e w4 ⟨vp, he, hvp, hb⟩
      subst he
      have tHU := HU.out.up hb
      have tHD := HD.out.up hb
      have tB := HB.out.trans (hb.mono HB.out.size)
      clear HU HD HB hb
      have HU := Lib.hid tHU
      have HD := Lib.hid tHD
      have HB := Lib.hid tB
      clear tB tHU tHD
      have HVP := Lib.hid hvp
      clear hvp HM
      have lU := Nat.le_trans (show U ≤ 2 ^ 8000 by rw [HUE.out]; exact (HLE.out i).1) (Nat.le_refl _)
      have lD := Nat.le_trans (show D ≤ 2 ^ 8000 by rw [HDE.out]; exact (HLE.out i).2) (Nat.le_refl _)
      have LU := Lib.hid (dg512 lU (by omega))
      have LD := Lib.hid (dg512 lD (by omega))
      clear lU lD
      by_cases hc0 : 0 < c
      · have hun := HUN.out
        have hdn := HDN.out
        have hll := HLU.out.1
        rw [show c.toNat = c.natAbs by omega] at hun hll
        rw [show (-c).toNat = 0 by omega, Nat.pow_zero, Nat.mul_one] at hdn
        have HUN' := Lib.hid hun
        have HDN' := Lib.hid hdn
        have HLL := Lib.hid hll
        clear hun hdn hll HUN HDN HLU
        go_wp2_with fail
        refine (Wd.nMul HU.out HVP.out LU.out (dg512 HPW.out (by omega)) (dg512 HLL.out (by omega))).mono ?_
        rintro e w5 ⟨vr, he, hr, hb⟩
        subst he
        have tHD := HD.out.up hb
        have tB := HB.out.trans (hb.mono HB.out.size)
        clear HD HB hb
        have HD := Lib.hid tHD
        have HB := Lib.hid tB
        clear tB tHD
        have HR := Lib.hid hr
        clear hr HU
        go_wp2
        refine ⟨⟨i + 1, _, _, by omega, by go_num, HUN'.out.symm, HDN'.out.symm, HR.out, HD.out, HB.out⟩, by simp [intOf]; omega⟩
      · have hun := HUN.out
        have hdn := HDN.out
        have hll := HLU.out.2
        rw [show c.toNat = 0 by omega, Nat.pow_zero, Nat.mul_one] at hun
        rw [show (-c).toNat = c.natAbs by omega] at hdn hll
        have HUN' := Lib.hid hun
        have HDN' := Lib.hid hdn
        have HLL := Lib.hid hll
        clear hun hdn hll HUN HDN HLU
        go_wp2_with fail
        refine (Wd.nMul HD.out HVP.out LD.out (dg512 HPW.out (by omega)) (dg512 HLL.out (by omega))).mono ?_
        rintro e w5 ⟨vr, he, hr, hb⟩
        subst he
        have tHU := HU.out.up hb
        have tB := HB.out.trans (hb.mono HB.out.size)
        clear HU HB hb
        have HU := Lib.hid tHU
        have HB := Lib.hid tB
        clear tB tHU
        have HR := Lib.hid hr
        clear hr HD
        go_wp2
        refine ⟨⟨i + 1, _, _, by omega, by go_num, HUN'.out.symm, HDN'.out.symm, HU.out, HR.out, HB.out⟩, by simp [intOf]; omega⟩
    · obtain rfl : i = n := by omega
      have hu := HU.out
      have hd := HD.out
      rw [HUE.out, hln, List.take_length] at hu
      rw [HDE.out, hln, List.take_length] at hd
      go_wp2
      go_ret3
      exact ⟨_, _, rfl, hu, hd, HB.out⟩
end Go.Proofs.YtokkcmadgcdpiaaDoor
