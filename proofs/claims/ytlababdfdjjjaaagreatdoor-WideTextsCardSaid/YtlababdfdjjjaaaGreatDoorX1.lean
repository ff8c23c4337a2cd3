import Derived.Test.YtlababdfdjjjaaaGreatDoorYRG
import Derived.Test.YtlababdfdjjjaaaGreatDoorYRE
namespace Go.Proofs.YtlababdfdjjjaaaGreatDoor
open Go.RowKit

/-! The reference's functions of numbers return what the program's do. -/
set_option maxRecDepth 100000 in
set_option maxHeartbeats 2000000 in
theorem rfit_any (va : Value) (n : Nat) (w : World) (ha : Num w w.heap.size va n) (hla : (dg n).length ≤ 100000000) :
    Calls Tryz.prog 95 #[va] w fun e w' => ∃ v, e = .returned (.tuple #[v, .int .i64 (if 512 < (dg n).length then 3 else 0)]) ∧ Num w w.heap.size v (if 512 < (dg n).length then 0 else n) ∧ w = w' := by
  obtain ⟨A, cap, rfl, hc⟩ := ha.form
  have HA := Lib.hid ha
  clear ha
  by_cases h : 512 < (dg n).length
  · rw [if_pos h, if_pos h]
    generalize (dg n).length = L at *
    go_enter Tryz.func95, Tryz.ntmps95
    go_wp2_with fail
    go_ret2
    exact ⟨_, rfl, Num.zero _ _, rfl⟩
  · rw [if_neg h, if_neg h]
    generalize (dg n).length = L at *
    go_enter Tryz.func95, Tryz.ntmps95
    go_wp2_with fail
    go_ret2
    exact ⟨_, rfl, HA.out, rfl⟩

set_option maxRecDepth 100000 in
set_option maxHeartbeats 2000000 in
theorem rAdd_any (va vb : Value) (la lb : List Nat) (w : World) (ha : Arg w va la) (hb : Arg w vb lb) : Calls Tryz.prog 35 #[va, vb] w (Res w (addW la lb)) := by
  have hex := rexam2 va vb la lb w ha hb
  have hnum : examW [la, lb] = 0 → ∀ W, Below w.heap.size w W → (Num W W.heap.size va (val la) ∧ (dg (val la)).length ≤ 512) ∧ (Num W W.heap.size vb (val lb) ∧ (dg (val lb)).length ≤ 512) := fun h W hW => ⟨⟨(ha.num h (by simp)).1.up hW, (ha.num h (by simp)).2.1⟩, ⟨(hb.num h (by simp)).1.up hW, (hb.num h (by simp)).2.1⟩⟩
  have hzl : examW [la, lb] = 0 → (lb.length = 0 ↔ val lb = 0) := fun h => lenz (hb.num h (by simp)).2.2
  obtain ⟨A, capa, rfl, -⟩ := ha.1.form
  obtain ⟨B, capb, rfl, -⟩ := hb.1.form
  unfold addW
  by_cases h : examW [la, lb] = 0
  · rw [if_pos h]
    rw [h] at hex
    have HN := Lib.hid (hnum h)
    have hzl := hzl h
    have hlen := (hnum h w (Below.refl _ _))
    have hla := hlen.1.2
    have hlb := hlen.2.2
    clear hlen
    have HEX := Lib.hid hex
    have hl : (dg (val la + val lb)).length ≤ 1100 := by have := len_add (val la) (val lb); omega
    have HS : Hid (∀ W, Below w.heap.size w W → Calls Tryz.prog 86 #[.slice A la.length capa, .slice B lb.length capb] W (RNum0 W (val la + val lb))) := Lib.hid fun W hW => rplus_num (HN.out W hW).1.1 (HN.out W hW).2.1 (by omega) (by omega)
    have HF : Hid (∀ W v, Num W W.heap.size v (val la + val lb) → Calls Tryz.prog 95 #[v] W _) := Lib.hid fun W v hv => rfit_any v (val la + val lb) W hv (by omega)
    clear hl hzl
    unfold fitW Res
    generalize (if 512 < (dg (val la + val lb)).length then (3 : Int) else 0) = ec at *
    generalize (if 512 < (dg (val la + val lb)).length then 0 else val la + val lb) = rn at *
    clear hex ha hb hnum hla hlb h
    generalize la.length = l1 at *
    generalize lb.length = l2 at *
    go_enter Tryz.func35, Tryz.ntmps35
    go_wp2_with fail
    refine HEX.out.mono ?_
    rintro e w2 ⟨he, hb2⟩
    subst he
    obtain ⟨⟨n1, n2⟩, ⟨m1, m2⟩⟩ := HN.out w2 hb2
    have N1 := Lib.hid n1
    have M1 := Lib.hid m1
    clear n1 m1
    go_wp2_with fail
    refine (HS.out w2 hb2).mono ?_
    rintro e w3 ⟨v3, he, hn3, hb3⟩
    subst he
    go_wp2_with fail
    refine (HF.out w3 v3 hn3).mono ?_
    rintro e w4 ⟨v4, he, hn4, rfl⟩
    subst he
    go_wp2_with fail
    go_ret2
    exact ⟨v4, rfl, hn4, hb2.trans (hb3.mono hb2.size)⟩
  · rw [if_neg h]
    generalize examW [la, lb] = ec at *
    have q1 : (ec == 0) = false := by simp [h]
    have q2 : (ec != 0) = true := by simp [h]
    have HEX := Lib.hid hex
    clear hex ha hb hnum hzl h
    generalize la.length = l1 at *
    generalize lb.length = l2 at *
    go_enter Tryz.func35, Tryz.ntmps35
    go_wp2_with fail
    refine HEX.out.mono ?_
    rintro e w2 ⟨he, hb2⟩
    subst he
    go_wp2_with fail
    go_ret2
    exact ⟨.slice none 0 0, rfl, Num.zero _ _, hb2⟩

set_option maxRecDepth 100000 in
set_option maxHeartbeats 2000000 in
theorem rMul_any (va vb : Value) (la lb : List Nat) (w : World) (ha : Arg w va la) (hb : Arg w vb lb) : Calls Tryz.prog 39 #[va, vb] w (Res w (mulW la lb)) := by
  have hex := rexam2 va vb la lb w ha hb
  have hnum : examW [la, lb] = 0 → ∀ W, Below w.heap.size w W → (Num W W.heap.size va (val la) ∧ (dg (val la)).length ≤ 512) ∧ (Num W W.heap.size vb (val lb) ∧ (dg (val lb)).length ≤ 512) := fun h W hW => ⟨⟨(ha.num h (by simp)).1.up hW, (ha.num h (by simp)).2.1⟩, ⟨(hb.num h (by simp)).1.up hW, (hb.num h (by simp)).2.1⟩⟩
  have hzl : examW [la, lb] = 0 → (lb.length = 0 ↔ val lb = 0) := fun h => lenz (hb.num h (by simp)).2.2
  obtain ⟨A, capa, rfl, -⟩ := ha.1.form
  obtain ⟨B, capb, rfl, -⟩ := hb.1.form
  unfold mulW
  by_cases h : examW [la, lb] = 0
  · rw [if_pos h]
    rw [h] at hex
    have HN := Lib.hid (hnum h)
    have hzl := hzl h
    have hlen := (hnum h w (Below.refl _ _))
    have hla := hlen.1.2
    have hlb := hlen.2.2
    clear hlen
    have HEX := Lib.hid hex
    have hl : (dg (val la * val lb)).length ≤ 1100 := by have := len_mul (val la) (val lb); omega
    have HS : Hid (∀ W, Below w.heap.size w W → Calls Tryz.prog 87 #[.slice A la.length capa, .slice B lb.length capb] W (RNum0 W (val la * val lb))) := Lib.hid fun W hW => rtimes_num (HN.out W hW).1.1 (HN.out W hW).2.1 (by omega) (by omega)
    have HF : Hid (∀ W v, Num W W.heap.size v (val la * val lb) → Calls Tryz.prog 95 #[v] W _) := Lib.hid fun W v hv => rfit_any v (val la * val lb) W hv (by omega)
    clear hl hzl
    unfold fitW Res
    generalize (if 512 < (dg (val la * val lb)).length then (3 : Int) else 0) = ec at *
    generalize (if 512 < (dg (val la * val lb)).length then 0 else val la * val lb) = rn at *
    clear hex ha hb hnum hla hlb h
    generalize la.length = l1 at *
    generalize lb.length = l2 at *
    go_enter Tryz.func39, Tryz.ntmps39
    go_wp2_with fail
    refine HEX.out.mono ?_
    rintro e w2 ⟨he, hb2⟩
    subst he
    obtain ⟨⟨n1, n2⟩, ⟨m1, m2⟩⟩ := HN.out w2 hb2
    have N1 := Lib.hid n1
    have M1 := Lib.hid m1
    clear n1 m1
    go_wp2_with fail
    refine (HS.out w2 hb2).mono ?_
    rintro e w3 ⟨v3, he, hn3, hb3⟩
    subst he
    go_wp2_with fail
    refine (HF.out w3 v3 hn3).mono ?_
    rintro e w4 ⟨v4, he, hn4, rfl⟩
    subst he
    go_wp2_with fail
    go_ret2
    exact ⟨v4, rfl, hn4, hb2.trans (hb3.mono hb2.size)⟩
  · rw [if_neg h]
    generalize examW [la, lb] = ec at *
    have q1 : (ec == 0) = false := by simp [h]
    have q2 : (ec != 0) = true := by simp [h]
    have HEX := Lib.hid hex
    clear hex ha hb hnum hzl h
    generalize la.length = l1 at *
    generalize lb.length = l2 at *
    go_enter Tryz.func39, Tryz.ntmps39
    go_wp2_with fail
    refine HEX.out.mono ?_
    rintro e w2 ⟨he, hb2⟩
    subst he
    go_wp2_with fail
    go_ret2
    exact ⟨.slice none 0 0, rfl, Num.zero _ _, hb2⟩

set_option maxRecDepth 100000 in
set_option maxHeartbeats 2000000 in
theorem rGcd_any (va vb : Value) (la lb : List Nat) (w : World) (ha : Arg w va la) (hb : Arg w vb lb) : Calls Tryz.prog 43 #[va, vb] w (Res w (gcdW la lb)) := by
  have hex := rexam2 va vb la lb w ha hb
  have hnum : examW [la, lb] = 0 → ∀ W, Below w.heap.size w W → (Num W W.heap.size va (val la) ∧ (dg (val la)).length ≤ 512) ∧ (Num W W.heap.size vb (val lb) ∧ (dg (val lb)).length ≤ 512) := fun h W hW => ⟨⟨(ha.num h (by simp)).1.up hW, (ha.num h (by simp)).2.1⟩, ⟨(hb.num h (by simp)).1.up hW, (hb.num h (by simp)).2.1⟩⟩
  have hzl : examW [la, lb] = 0 → (lb.length = 0 ↔ val lb = 0) := fun h => lenz (hb.num h (by simp)).2.2
  obtain ⟨A, capa, rfl, -⟩ := ha.1.form
  obtain ⟨B, capb, rfl, -⟩ := hb.1.form
  unfold gcdW
  by_cases h : examW [la, lb] = 0
  · rw [if_pos h]
    rw [h] at hex
    have HN := Lib.hid (hnum h)
    have hzl := hzl h
    have hlen := (hnum h w (Below.refl _ _))
    have hla := hlen.1.2
    have hlb := hlen.2.2
    clear hlen
    have HEX := Lib.hid hex
    have HS : Hid (∀ W, Below w.heap.size w W → Calls Tryz.prog 101 #[.slice A la.length capa, .slice B lb.length capb] W (RNum0 W (Nat.gcd (val la) (val lb)))) := Lib.hid fun W hW => rcommon_any _ _ _ _ W (HN.out W hW).1.1 (HN.out W hW).2.1 (by omega) (by omega)
    clear hzl
    clear hex ha hb hnum hla hlb h
    generalize la.length = l1 at *
    generalize lb.length = l2 at *
    go_enter Tryz.func43, Tryz.ntmps43
    go_wp2_with fail
    refine HEX.out.mono ?_
    rintro e w2 ⟨he, hb2⟩
    subst he
    obtain ⟨⟨n1, n2⟩, ⟨m1, m2⟩⟩ := HN.out w2 hb2
    have N1 := Lib.hid n1
    have M1 := Lib.hid m1
    clear n1 m1
    go_wp2_with fail
    refine (HS.out w2 hb2).mono ?_
    rintro e w3 ⟨v3, he, hn3, hb3⟩
    subst he
    go_wp2_with fail
    go_ret2
    exact ⟨v3, rfl, hn3, hb2.trans (hb3.mono hb2.size)⟩
  · rw [if_neg h]
    generalize examW [la, lb] = ec at *
    have q1 : (ec == 0) = false := by simp [h]
    have q2 : (ec != 0) = true := by simp [h]
    have HEX := Lib.hid hex
    clear hex ha hb hnum hzl h
    generalize la.length = l1 at *
    generalize lb.length = l2 at *
    go_enter Tryz.func43, Tryz.ntmps43
    go_wp2_with fail
    refine HEX.out.mono ?_
    rintro e w2 ⟨he, hb2⟩
    subst he
    go_wp2_with fail
    go_ret2
    exact ⟨.slice none 0 0, rfl, Num.zero _ _, hb2⟩

set_option maxRecDepth 100000 in
set_option maxHeartbeats 2000000 in
theorem rCmp_any (va vb : Value) (la lb : List Nat) (w : World) (ha : Arg w va la) (hb : Arg w vb lb) : Calls Tryz.prog 29 #[va, vb] w (fun e w' => e = .returned (.tuple #[.int .i64 (cmpW la lb).1, .int .i64 (cmpW la lb).2]) ∧ Below w.heap.size w w') := by
  have hex := rexam2 va vb la lb w ha hb
  have hnum : examW [la, lb] = 0 → ∀ W, Below w.heap.size w W → (Num W W.heap.size va (val la) ∧ (dg (val la)).length ≤ 512) ∧ (Num W W.heap.size vb (val lb) ∧ (dg (val lb)).length ≤ 512) := fun h W hW => ⟨⟨(ha.num h (by simp)).1.up hW, (ha.num h (by simp)).2.1⟩, ⟨(hb.num h (by simp)).1.up hW, (hb.num h (by simp)).2.1⟩⟩
  have hzl : examW [la, lb] = 0 → (lb.length = 0 ↔ val lb = 0) := fun h => lenz (hb.num h (by simp)).2.2
  obtain ⟨A, capa, rfl, -⟩ := ha.1.form
  obtain ⟨B, capb, rfl, -⟩ := hb.1.form
  unfold cmpW
  by_cases h : examW [la, lb] = 0
  · rw [if_pos h]
    rw [h] at hex
    have HN := Lib.hid (hnum h)
    have hzl := hzl h
    have hlen := (hnum h w (Below.refl _ _))
    have hla := hlen.1.2
    have hlb := hlen.2.2
    clear hlen
    have HEX := Lib.hid hex
    have HS : Hid (∀ W, Below w.heap.size w W → Calls Tryz.prog 89 #[.slice A la.length capa, .slice B lb.length capb] W fun e w' => e = .returned (.int .i64 (cmpI (val la) (val lb))) ∧ W = w') := Lib.hid fun W hW => rorder_num (HN.out W hW).1.1 (HN.out W hW).2.1 (by omega) (by omega)
    clear hzl
    generalize cmpI (val la) (val lb) = cc at *
    clear hex ha hb hnum hla hlb h
    generalize la.length = l1 at *
    generalize lb.length = l2 at *
    go_enter Tryz.func29, Tryz.ntmps29
    go_wp2_with fail
    refine HEX.out.mono ?_
    rintro e w2 ⟨he, hb2⟩
    subst he
    obtain ⟨⟨n1, n2⟩, ⟨m1, m2⟩⟩ := HN.out w2 hb2
    have N1 := Lib.hid n1
    have M1 := Lib.hid m1
    clear n1 m1
    go_wp2_with fail
    refine (HS.out w2 hb2).mono ?_
    rintro e w3 ⟨he, rfl⟩
    subst he
    go_wp2_with fail
    go_ret2
    exact ⟨rfl, hb2⟩
  · rw [if_neg h]
    generalize examW [la, lb] = ec at *
    have q1 : (ec == 0) = false := by simp [h]
    have q2 : (ec != 0) = true := by simp [h]
    have HEX := Lib.hid hex
    clear hex ha hb hnum hzl h
    generalize la.length = l1 at *
    generalize lb.length = l2 at *
    go_enter Tryz.func29, Tryz.ntmps29
    go_wp2_with fail
    refine HEX.out.mono ?_
    rintro e w2 ⟨he, hb2⟩
    subst he
    go_wp2_with fail
    go_ret2
    exact ⟨rfl, hb2⟩

set_option maxRecDepth 100000 in
set_option maxHeartbeats 2000000 in
theorem rSub_any (va vb : Value) (la lb : List Nat) (w : World) (ha : Arg w va la) (hb : Arg w vb lb) : Calls Tryz.prog 37 #[va, vb] w (Res w (subW la lb)) := by
  have hex := rexam2 va vb la lb w ha hb
  have hnum : examW [la, lb] = 0 → ∀ W, Below w.heap.size w W → (Num W W.heap.size va (val la) ∧ (dg (val la)).length ≤ 512) ∧ (Num W W.heap.size vb (val lb) ∧ (dg (val lb)).length ≤ 512) := fun h W hW => ⟨⟨(ha.num h (by simp)).1.up hW, (ha.num h (by simp)).2.1⟩, ⟨(hb.num h (by simp)).1.up hW, (hb.num h (by simp)).2.1⟩⟩
  have hzl : examW [la, lb] = 0 → (lb.length = 0 ↔ val lb = 0) := fun h => lenz (hb.num h (by simp)).2.2
  obtain ⟨A, capa, rfl, -⟩ := ha.1.form
  obtain ⟨B, capb, rfl, -⟩ := hb.1.form
  unfold subW
  by_cases h : examW [la, lb] = 0
  · rw [if_pos h]
    rw [h] at hex
    have HN := Lib.hid (hnum h)
    have hzl := hzl h
    have hlen := (hnum h w (Below.refl _ _))
    have hla := hlen.1.2
    have hlb := hlen.2.2
    clear hlen
    have HEX := Lib.hid hex
    have HS : Hid (∀ W, Below w.heap.size w W → Calls Tryz.prog 89 #[.slice A la.length capa, .slice B lb.length capb] W fun e w' => e = .returned (.int .i64 (cmpI (val la) (val lb))) ∧ W = w') := Lib.hid fun W hW => rorder_num (HN.out W hW).1.1 (HN.out W hW).2.1 (by omega) (by omega)
    have HM : Hid (val lb ≤ val la → ∀ W, Below w.heap.size w W → Calls Tryz.prog 97 #[.slice A la.length capa, .slice B lb.length capb] W (RNum0 W (val la - val lb))) := Lib.hid fun hle W hW => rminus_num (HN.out W hW).1.1 (HN.out W hW).2.1 (by omega) hle
    clear hzl
    by_cases hlt : val la < val lb
    · rw [if_pos hlt]
      rw [cmpI_lt hlt] at HS
      clear HM
      clear hex ha hb hnum hla hlb h
      generalize la.length = l1 at *
      generalize lb.length = l2 at *
      go_enter Tryz.func37, Tryz.ntmps37
      go_wp2_with fail
      refine HEX.out.mono ?_
      rintro e w2 ⟨he, hb2⟩
      subst he
      obtain ⟨⟨n1, n2⟩, ⟨m1, m2⟩⟩ := HN.out w2 hb2
      have N1 := Lib.hid n1
      have M1 := Lib.hid m1
      clear n1 m1
      go_wp2_with fail
      refine (HS.out w2 hb2).mono ?_
      rintro e w3 ⟨he, rfl⟩
      subst he
      go_wp2_with fail
      go_ret2
      exact ⟨.slice none 0 0, rfl, Num.zero _ _, hb2⟩
    · rw [if_neg hlt]
      obtain ⟨c, hcc, hc0⟩ : ∃ c : Int, cmpI (val la) (val lb) = c ∧ 0 ≤ c := by
        rcases Nat.lt_or_ge (val lb) (val la) with h2 | h2
        · exact ⟨1, cmpI_gt h2, by omega⟩
        · exact ⟨0, cmpI_eq (by omega), by omega⟩
      rw [hcc] at HS
      have HM := Lib.hid (HM.out (by omega))
      clear hcc
      clear hex ha hb hnum hla hlb h
      generalize la.length = l1 at *
      generalize lb.length = l2 at *
      go_enter Tryz.func37, Tryz.ntmps37
      go_wp2_with fail
      refine HEX.out.mono ?_
      rintro e w2 ⟨he, hb2⟩
      subst he
      obtain ⟨⟨n1, n2⟩, ⟨m1, m2⟩⟩ := HN.out w2 hb2
      have N1 := Lib.hid n1
      have M1 := Lib.hid m1
      clear n1 m1
      go_wp2_with fail
      refine (HS.out w2 hb2).mono ?_
      rintro e w3 ⟨he, rfl⟩
      subst he
      go_wp2_with fail
      refine (HM.out w2 hb2).mono ?_
      rintro e w3 ⟨v3, he, hn3, hb3⟩
      subst he
      go_wp2_with fail
      go_ret2
      exact ⟨v3, rfl, hn3, hb2.trans (hb3.mono hb2.size)⟩
  · rw [if_neg h]
    generalize examW [la, lb] = ec at *
    have q1 : (ec == 0) = false := by simp [h]
    have q2 : (ec != 0) = true := by simp [h]
    have HEX := Lib.hid hex
    clear hex ha hb hnum hzl h
    generalize la.length = l1 at *
    generalize lb.length = l2 at *
    go_enter Tryz.func37, Tryz.ntmps37
    go_wp2_with fail
    refine HEX.out.mono ?_
    rintro e w2 ⟨he, hb2⟩
    subst he
    go_wp2_with fail
    go_ret2
    exact ⟨.slice none 0 0, rfl, Num.zero _ _, hb2⟩

set_option maxRecDepth 100000 in
set_option maxHeartbeats 2000000 in
theorem rDivMod_any (va vb : Value) (la lb : List Nat) (w : World) (ha : Arg w va la) (hb : Arg w vb lb) : Calls Tryz.prog 41 #[va, vb] w (Res2 w (divW la lb)) := by
  have hex := rexam2 va vb la lb w ha hb
  have hnum : examW [la, lb] = 0 → ∀ W, Below w.heap.size w W → (Num W W.heap.size va (val la) ∧ (dg (val la)).length ≤ 512) ∧ (Num W W.heap.size vb (val lb) ∧ (dg (val lb)).length ≤ 512) := fun h W hW => ⟨⟨(ha.num h (by simp)).1.up hW, (ha.num h (by simp)).2.1⟩, ⟨(hb.num h (by simp)).1.up hW, (hb.num h (by simp)).2.1⟩⟩
  have hzl : examW [la, lb] = 0 → (lb.length = 0 ↔ val lb = 0) := fun h => lenz (hb.num h (by simp)).2.2
  obtain ⟨A, capa, rfl, -⟩ := ha.1.form
  obtain ⟨B, capb, rfl, -⟩ := hb.1.form
  unfold divW
  by_cases h : examW [la, lb] = 0
  · rw [if_pos h]
    rw [h] at hex
    have HN := Lib.hid (hnum h)
    have hzl := hzl h
    have hlen := (hnum h w (Below.refl _ _))
    have hla := hlen.1.2
    have hlb := hlen.2.2
    clear hlen
    have HEX := Lib.hid hex
    have HS : Hid (val lb ≠ 0 → ∀ W, Below w.heap.size w W → Calls Tryz.prog 99 #[.slice A la.length capa, .slice B lb.length capb] W (RDiv W (val la) (val lb))) := Lib.hid fun h0 W hW => rdivide_any _ _ _ _ W (HN.out W hW).1.1 (HN.out W hW).2.1 (by omega) (by omega) (Nat.pos_of_ne_zero h0)
    by_cases h0 : val lb = 0
    · rw [if_pos h0]
      have hz := hzl.2 h0
      have hB : Value.slice B lb.length capb = .slice B 0 capb := by rw [hz]
      rw [hB] at hex HEX HN ⊢
      clear hzl h0 HS hz hB
      clear hex ha hb hnum hla hlb h
      generalize la.length = l1 at *
      generalize lb.length = l2 at *
      go_enter Tryz.func41, Tryz.ntmps41
      go_wp2_with fail
      refine HEX.out.mono ?_
      rintro e w2 ⟨he, hb2⟩
      subst he
      obtain ⟨⟨n1, n2⟩, ⟨m1, m2⟩⟩ := HN.out w2 hb2
      have N1 := Lib.hid n1
      have M1 := Lib.hid m1
      clear n1 m1
      go_wp2_with fail
      go_ret3
      exact ⟨.slice none 0 0, .slice none 0 0, rfl, Num.zero _ _, Num.zero _ _, hb2⟩
    · rw [if_neg h0]
      have HS := Lib.hid (HS.out h0)
      have hz : ¬ lb.length = 0 := fun h1 => h0 (hzl.1 h1)
      clear hzl h0
      clear hex ha hb hnum hla hlb h
      generalize la.length = l1 at *
      generalize lb.length = l2 at *
      go_enter Tryz.func41, Tryz.ntmps41
      go_wp2_with fail
      refine HEX.out.mono ?_
      rintro e w2 ⟨he, hb2⟩
      subst he
      obtain ⟨⟨n1, n2⟩, ⟨m1, m2⟩⟩ := HN.out w2 hb2
      have N1 := Lib.hid n1
      have M1 := Lib.hid m1
      clear n1 m1
      go_wp2_with fail
      refine (HS.out w2 hb2).mono ?_
      rintro e w3 ⟨q, r, he, hq, hr, hb3⟩
      subst he
      go_wp2_with fail
      go_ret3
      exact ⟨q, r, rfl, hq, hr, hb2.trans (hb3.mono hb2.size)⟩
  · rw [if_neg h]
    generalize examW [la, lb] = ec at *
    have q1 : (ec == 0) = false := by simp [h]
    have q2 : (ec != 0) = true := by simp [h]
    have HEX := Lib.hid hex
    clear hex ha hb hnum hzl h
    generalize la.length = l1 at *
    generalize lb.length = l2 at *
    go_enter Tryz.func41, Tryz.ntmps41
    go_wp2_with fail
    refine HEX.out.mono ?_
    rintro e w2 ⟨he, hb2⟩
    subst he
    go_wp2_with fail
    go_ret3
    exact ⟨.slice none 0 0, .slice none 0 0, rfl, Num.zero _ _, Num.zero _ _, hb2⟩

set_option maxRecDepth 100000 in
set_option maxHeartbeats 2000000 in
theorem rBits_any (va : Value) (la : List Nat) (w : World) (ha : Arg w va la) : Calls Tryz.prog 31 #[va] w (fun e w' => e = .returned (.tuple #[.int .i64 ((bitsW la).1 : Int), .int .i64 (bitsW la).2]) ∧ Below w.heap.size w w') := by
  have hex := rexam1 va la w ha
  have hnum : examW [la] = 0 → ∀ W, Below w.heap.size w W → Num W W.heap.size va (val la) ∧ (dg (val la)).length ≤ 512 := fun h W hW => ⟨(ha.num h (by simp)).1.up hW, (ha.num h (by simp)).2.1⟩
  obtain ⟨A, capa, rfl, -⟩ := ha.1.form
  unfold bitsW
  by_cases h : examW [la] = 0
  · rw [if_pos h]
    rw [h] at hex
    have HS : Hid (∀ W, Below w.heap.size w W → Calls Tryz.prog 90 #[.slice A la.length capa] W fun e w' => e = .returned (.int .i64 (bitsOf (val la) : Int)) ∧ Drawn W w') := Lib.hid fun W hW => rsize_any _ (val la) _ W (hnum h W hW).1 (by have := (hnum h W hW).2; omega)
    have HEX := Lib.hid hex
    clear hex ha hnum h
    generalize la.length = l1 at *
    generalize bitsOf (val la) = b at *
    go_enter Tryz.func31, Tryz.ntmps31
    go_wp2_with fail
    refine HEX.out.mono ?_
    rintro e w2 ⟨he, hb2⟩
    subst he
    go_wp2_with fail
    refine (HS.out w2 hb2).mono ?_
    rintro e w3 ⟨he, hd⟩
    subst he
    go_wp2_with fail
    go_ret2
    exact ⟨rfl, hb2.trans (hd.below.mono hb2.size)⟩
  · rw [if_neg h]
    generalize examW [la] = ec at *
    have q1 : (ec == 0) = false := by simp [h]
    have q2 : (ec != 0) = true := by simp [h]
    have HEX := Lib.hid hex
    clear hex ha hnum h
    generalize la.length = l1 at *
    go_enter Tryz.func31, Tryz.ntmps31
    go_wp2_with fail
    refine HEX.out.mono ?_
    rintro e w2 ⟨he, hb2⟩
    subst he
    go_wp2_with fail
    go_ret2
    exact ⟨rfl, hb2⟩
theorem isRoot_unique {a k r s : Nat} (h1 : r ^ k ≤ a) (h2 : a < (r + 1) ^ k) (h : IsRoot a k s) : r = s := by
  obtain ⟨g1, g2⟩ := h
  rcases Nat.lt_trichotomy r s with hl | hl | hl
  · exact absurd (Nat.lt_of_lt_of_le h2 (Nat.le_trans (Nat.pow_le_pow_left hl k) g1)) (Nat.lt_irrefl _)
  · exact hl
  · exact absurd (Nat.lt_of_lt_of_le g2 (Nat.le_trans (Nat.pow_le_pow_left hl k) h1)) (Nat.lt_irrefl _)
theorem rRoot_any (va : Value) (la : List Nat) (k : Int) (w : World) (ha : Arg w va la) : Calls Tryz.prog 47 #[va, .int .i64 k] w (Res w (rootW la k)) := by
  unfold rootW
  by_cases h : examW [la] = 0
  · rw [if_pos h]
    by_cases hr : k < 1 ∨ 64 < k
    · rw [if_pos hr]
      exact rRoot_arg va la k w ha h hr
    · rw [if_neg hr]
      obtain ⟨j, rfl⟩ : ∃ j : Nat, k = (j : Int) := ⟨k.toNat, by omega⟩
      rw [Int.toNat_natCast]
      refine (rRoot_good va la j w ha h (by omega) (by omega)).mono ?_
      rintro e w' ⟨A, n, c, r, he, hn, h1, h2, hb⟩
      have hrr := isRoot_unique h1 h2 (rootN_is (val la) (show 0 < j by omega))
      subst hrr
      exact ⟨_, he, hn, hb⟩
  · rw [if_neg h]
    exact rRoot_bad va la k w ha h
end Go.Proofs.YtlababdfdjjjaaaGreatDoor
