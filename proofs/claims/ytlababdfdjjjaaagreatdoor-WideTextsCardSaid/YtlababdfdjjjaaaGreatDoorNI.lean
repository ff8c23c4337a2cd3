import Derived.Test.YtlababdfdjjjaaaGreatDoorNH
namespace Go.Proofs.YtlababdfdjjjaaaGreatDoor
open Go.RowKit

theorem len_mul (x y : Nat) : (dg (x * y)).length ≤ (dg x).length + (dg y).length := by
  refine dg_le.2 ?_
  rw [Nat.pow_add]
  have h1 := lt_dg x
  have h2 := lt_dg y
  rcases Nat.eq_zero_or_pos y with h | h
  · rw [h, Nat.mul_zero]; exact Nat.mul_pos (pow_pos' _) (pow_pos' _)
  · exact Nat.lt_of_lt_of_le (Nat.mul_lt_mul_of_pos_right h1 h) (Nat.mul_le_mul_left _ (Nat.le_of_lt h2))
def cmpW (la lb : List Nat) : Int × Int := if examW [la, lb] = 0 then (cmpI (val la) (val lb), 0) else (0, examW [la, lb])
def divW (la lb : List Nat) : Nat × Nat × Int := if examW [la, lb] = 0 then (if val lb = 0 then (0, 0, 4) else (val la / val lb, val la % val lb, 0)) else (0, 0, examW [la, lb])
/-- Two numbers and an error number. -/
def Res2 (w : World) (r : Nat × Nat × Int) (e : Ending) (w' : World) : Prop := ∃ u v, e = .returned (.tuple #[u, v, .int .i64 r.2.2]) ∧ Num w' w'.heap.size u r.1 ∧ Num w' w'.heap.size v r.2.1 ∧ Below w.heap.size w w'

set_option maxRecDepth 100000 in
set_option maxHeartbeats 2000000 in
theorem Mul_any (va vb : Value) (la lb : List Nat) (w : World) (ha : Arg w va la) (hb : Arg w vb lb) : Calls Tryz.prog 38 #[va, vb] w (Res w (mulW la lb)) := by
  have hex := exam2 va vb la lb w ha hb
  have hbl : Below w.heap.size w (w.alloc (.cells #[va, vb] 24)) := (Below.refl _ w).alloc (Nat.le_refl _) _
  have ha1 := ha.up hbl
  have hb1 := hb.up hbl
  obtain ⟨A, capa, rfl, -⟩ := ha.1.form
  obtain ⟨B, capb, rfl, -⟩ := hb.1.form
  unfold mulW
  by_cases h : examW [la, lb] = 0
  · obtain ⟨n1, n2, n3⟩ := ha1.num h (by simp)
    obtain ⟨m1, m2, m3⟩ := hb1.num h (by simp)
    rw [if_pos h]
    rw [h] at hex
    have HEX := Lib.hid hex
    have hs := product_any _ _ _ _ _ n1 m1 (by omega) (by omega)
    rw [val_dg, val_dg] at hs
    have hl := len_mul (val la) (val lb)
    have hwi : ∀ W v, Num W W.heap.size v (val la * val lb) → _ := fun W v hv => within_any v (val la * val lb) W hv (by omega)
    unfold fitW Res
    generalize (if 512 < (dg (val la * val lb)).length then (3 : Int) else 0) = ec at *
    generalize (if 512 < (dg (val la * val lb)).length then 0 else val la * val lb) = rn at *
    have HS := Lib.hid hs
    have HWI := Lib.hid hwi
    clear hs hwi hl
    clear hex ha hb ha1 hb1 n1 n2 n3 m1 m2 m3 h
    generalize la.length = l1 at *
    generalize lb.length = l2 at *
    go_enter Tryz.func38, Tryz.ntmps38
    go_wp2_with fail
    refine HEX.out.mono ?_
    rintro e w1 ⟨rfl, rfl⟩
    go_wp2_with fail
    refine HS.out.mono ?_
    rintro e w2 ⟨v2, he, hn2, hb2⟩
    subst he
    go_wp2_with fail
    refine (HWI.out w2 v2 hn2).mono ?_
    rintro e w3 ⟨v3, he, hn3, rfl⟩
    subst he
    go_wp2_with fail
    go_ret2
    exact ⟨v3, rfl, hn3, hbl.trans (hb2.mono hbl.size)⟩
  · rw [if_neg h]
    generalize examW [la, lb] = ec at *
    have q1 : (ec == 0) = false := by simp [h]
    have q2 : (ec != 0) = true := by simp [h]
    have HEX := Lib.hid hex
    clear hex ha hb ha1 hb1 h
    generalize la.length = l1 at *
    generalize lb.length = l2 at *
    go_enter Tryz.func38, Tryz.ntmps38
    go_wp2_with fail
    refine HEX.out.mono ?_
    rintro e w1 ⟨rfl, rfl⟩
    go_wp2_with fail
    go_ret2
    exact ⟨.slice none 0 0, rfl, Num.zero _ _, hbl⟩

set_option maxRecDepth 100000 in
set_option maxHeartbeats 2000000 in
theorem Gcd_any (va vb : Value) (la lb : List Nat) (w : World) (ha : Arg w va la) (hb : Arg w vb lb) : Calls Tryz.prog 42 #[va, vb] w (Res w (gcdW la lb)) := by
  have hex := exam2 va vb la lb w ha hb
  have hbl : Below w.heap.size w (w.alloc (.cells #[va, vb] 24)) := (Below.refl _ w).alloc (Nat.le_refl _) _
  have ha1 := ha.up hbl
  have hb1 := hb.up hbl
  obtain ⟨A, capa, rfl, -⟩ := ha.1.form
  obtain ⟨B, capb, rfl, -⟩ := hb.1.form
  unfold gcdW
  by_cases h : examW [la, lb] = 0
  · obtain ⟨n1, n2, n3⟩ := ha1.num h (by simp)
    obtain ⟨m1, m2, m3⟩ := hb1.num h (by simp)
    rw [if_pos h]
    rw [h] at hex
    have HEX := Lib.hid hex
    have hs := common_any _ _ _ _ _ n1 m1 (by omega) (by omega)
    have HS := Lib.hid hs
    clear hs
    clear hex ha hb ha1 hb1 n1 n2 n3 m1 m2 m3 h
    generalize la.length = l1 at *
    generalize lb.length = l2 at *
    go_enter Tryz.func42, Tryz.ntmps42
    go_wp2_with fail
    refine HEX.out.mono ?_
    rintro e w1 ⟨rfl, rfl⟩
    go_wp2_with fail
    refine HS.out.mono ?_
    rintro e w2 ⟨v2, he, hn2, hb2⟩
    subst he
    go_wp2_with fail
    go_ret2
    exact ⟨v2, rfl, hn2, hbl.trans (hb2.mono hbl.size)⟩
  · rw [if_neg h]
    generalize examW [la, lb] = ec at *
    have q1 : (ec == 0) = false := by simp [h]
    have q2 : (ec != 0) = true := by simp [h]
    have HEX := Lib.hid hex
    clear hex ha hb ha1 hb1 h
    generalize la.length = l1 at *
    generalize lb.length = l2 at *
    go_enter Tryz.func42, Tryz.ntmps42
    go_wp2_with fail
    refine HEX.out.mono ?_
    rintro e w1 ⟨rfl, rfl⟩
    go_wp2_with fail
    go_ret2
    exact ⟨.slice none 0 0, rfl, Num.zero _ _, hbl⟩

set_option maxRecDepth 100000 in
set_option maxHeartbeats 2000000 in
theorem Cmp_any (va vb : Value) (la lb : List Nat) (w : World) (ha : Arg w va la) (hb : Arg w vb lb) : Calls Tryz.prog 28 #[va, vb] w (fun e w' => e = .returned (.tuple #[.int .i64 (cmpW la lb).1, .int .i64 (cmpW la lb).2]) ∧ Below w.heap.size w w') := by
  have hex := exam2 va vb la lb w ha hb
  have hbl : Below w.heap.size w (w.alloc (.cells #[va, vb] 24)) := (Below.refl _ w).alloc (Nat.le_refl _) _
  have ha1 := ha.up hbl
  have hb1 := hb.up hbl
  obtain ⟨A, capa, rfl, -⟩ := ha.1.form
  obtain ⟨B, capb, rfl, -⟩ := hb.1.form
  unfold cmpW
  by_cases h : examW [la, lb] = 0
  · obtain ⟨n1, n2, n3⟩ := ha1.num h (by simp)
    obtain ⟨m1, m2, m3⟩ := hb1.num h (by simp)
    rw [if_pos h]
    rw [h] at hex
    have HEX := Lib.hid hex
    have hs := compare_any _ _ _ _ _ n1 m1 (by omega)
    generalize cmpI (val la) (val lb) = cc at *
    have HS := Lib.hid hs
    clear hs
    clear hex ha hb ha1 hb1 n1 n2 n3 m1 m2 m3 h
    generalize la.length = l1 at *
    generalize lb.length = l2 at *
    go_enter Tryz.func28, Tryz.ntmps28
    go_wp2_with fail
    refine HEX.out.mono ?_
    rintro e w1 ⟨rfl, rfl⟩
    go_wp2_with fail
    refine HS.out.mono ?_
    rintro e w2 ⟨he, hd⟩
    subst he
    go_wp2_with fail
    go_ret2
    exact ⟨rfl, hbl.trans (hd.below.mono hbl.size)⟩
  · rw [if_neg h]
    generalize examW [la, lb] = ec at *
    have q1 : (ec == 0) = false := by simp [h]
    have q2 : (ec != 0) = true := by simp [h]
    have HEX := Lib.hid hex
    clear hex ha hb ha1 hb1 h
    generalize la.length = l1 at *
    generalize lb.length = l2 at *
    go_enter Tryz.func28, Tryz.ntmps28
    go_wp2_with fail
    refine HEX.out.mono ?_
    rintro e w1 ⟨rfl, rfl⟩
    go_wp2_with fail
    go_ret2
    exact ⟨rfl, hbl⟩

set_option maxRecDepth 100000 in
set_option maxHeartbeats 2000000 in
theorem Sub_any (va vb : Value) (la lb : List Nat) (w : World) (ha : Arg w va la) (hb : Arg w vb lb) : Calls Tryz.prog 36 #[va, vb] w (Res w (subW la lb)) := by
  have hex := exam2 va vb la lb w ha hb
  have hbl : Below w.heap.size w (w.alloc (.cells #[va, vb] 24)) := (Below.refl _ w).alloc (Nat.le_refl _) _
  have ha1 := ha.up hbl
  have hb1 := hb.up hbl
  obtain ⟨A, capa, rfl, -⟩ := ha.1.form
  obtain ⟨B, capb, rfl, -⟩ := hb.1.form
  unfold subW
  by_cases h : examW [la, lb] = 0
  · obtain ⟨n1, n2, n3⟩ := ha1.num h (by simp)
    obtain ⟨m1, m2, m3⟩ := hb1.num h (by simp)
    rw [if_pos h]
    rw [h] at hex
    have HEX := Lib.hid hex
    have hs := compare_any _ _ _ _ _ n1 m1 (by omega)
    have hdf : ∀ W, Drawn (w.alloc (.cells #[.slice A la.length capa, .slice B lb.length capb] 24)) W → val lb ≤ val la → Calls Tryz.prog 96 #[.slice A la.length capa, .slice B lb.length capb] W (NumPost W (val la - val lb)) := fun W hd hle => difference_any _ _ _ _ W (Lim.up n1 hd.below) (Lim.up m1 hd.below) hle (by omega)
    have HDF := Lib.hid hdf
    clear hdf
    by_cases hlt : val la < val lb
    · rw [if_pos hlt]
      rw [cmpI_lt hlt] at hs
      have HS := Lib.hid hs
      clear hs
      clear hex ha hb ha1 hb1 n1 n2 n3 m1 m2 m3 h
      generalize la.length = l1 at *
      generalize lb.length = l2 at *
      go_enter Tryz.func36, Tryz.ntmps36
      go_wp2_with fail
      refine HEX.out.mono ?_
      rintro e w1 ⟨rfl, rfl⟩
      go_wp2_with fail
      refine HS.out.mono ?_
      rintro e w2 ⟨he, hd⟩
      subst he
      go_wp2_with fail
      go_ret2
      exact ⟨.slice none 0 0, rfl, Num.zero _ _, hbl.trans (hd.below.mono hbl.size)⟩
    · rw [if_neg hlt]
      obtain ⟨c, hcc, hc0⟩ : ∃ c : Int, cmpI (val la) (val lb) = c ∧ 0 ≤ c := by
        rcases Nat.lt_or_ge (val lb) (val la) with h2 | h2
        · exact ⟨1, cmpI_gt h2, by omega⟩
        · exact ⟨0, cmpI_eq (by omega), by omega⟩
      rw [hcc] at hs
      have HS := Lib.hid hs
      clear hs hcc
      clear hex ha hb ha1 hb1 n1 n2 n3 m1 m2 m3 h
      generalize la.length = l1 at *
      generalize lb.length = l2 at *
      go_enter Tryz.func36, Tryz.ntmps36
      go_wp2_with fail
      refine HEX.out.mono ?_
      rintro e w1 ⟨rfl, rfl⟩
      go_wp2_with fail
      refine HS.out.mono ?_
      rintro e w2 ⟨he, hd⟩
      subst he
      go_wp2_with fail
      refine (HDF.out w2 hd (by omega)).mono ?_
      rintro e w3 ⟨v3, he, hn3, hb3⟩
      subst he
      go_wp2_with fail
      go_ret2
      exact ⟨v3, rfl, hn3, (hbl.trans (hd.below.mono hbl.size)).trans (hb3.mono (Nat.le_trans hbl.size hd.below.size))⟩
  · rw [if_neg h]
    generalize examW [la, lb] = ec at *
    have q1 : (ec == 0) = false := by simp [h]
    have q2 : (ec != 0) = true := by simp [h]
    have HEX := Lib.hid hex
    clear hex ha hb ha1 hb1 h
    generalize la.length = l1 at *
    generalize lb.length = l2 at *
    go_enter Tryz.func36, Tryz.ntmps36
    go_wp2_with fail
    refine HEX.out.mono ?_
    rintro e w1 ⟨rfl, rfl⟩
    go_wp2_with fail
    go_ret2
    exact ⟨.slice none 0 0, rfl, Num.zero _ _, hbl⟩

set_option maxRecDepth 100000 in
set_option maxHeartbeats 2000000 in
theorem DivMod_any (va vb : Value) (la lb : List Nat) (w : World) (ha : Arg w va la) (hb : Arg w vb lb) : Calls Tryz.prog 40 #[va, vb] w (Res2 w (divW la lb)) := by
  have hex := exam2 va vb la lb w ha hb
  have hbl : Below w.heap.size w (w.alloc (.cells #[va, vb] 24)) := (Below.refl _ w).alloc (Nat.le_refl _) _
  have ha1 := ha.up hbl
  have hb1 := hb.up hbl
  obtain ⟨A, capa, rfl, -⟩ := ha.1.form
  obtain ⟨B, capb, rfl, -⟩ := hb.1.form
  unfold divW
  by_cases h : examW [la, lb] = 0
  · obtain ⟨n1, n2, n3⟩ := ha1.num h (by simp)
    obtain ⟨m1, m2, m3⟩ := hb1.num h (by simp)
    rw [if_pos h]
    rw [h] at hex
    have HEX := Lib.hid hex
    have hz := isZero_any _ _ _ _ m1
    have hdv : val lb ≠ 0 → _ := fun h0 => divide_any _ _ _ _ _ n1 m1 (by omega) h0
    have HDV := Lib.hid hdv
    clear hdv
    by_cases h0 : val lb = 0
    · rw [if_pos h0]
      rw [decide_eq_true h0] at hz
      have HZ := Lib.hid hz
      clear hz
      clear hex ha hb ha1 hb1 n1 n2 n3 m1 m2 m3 h
      generalize la.length = l1 at *
      generalize lb.length = l2 at *
      go_enter Tryz.func40, Tryz.ntmps40
      go_wp2_with fail
      refine HEX.out.mono ?_
      rintro e w1 ⟨rfl, rfl⟩
      go_wp2_with fail
      refine HZ.out.mono ?_
      rintro e w2 ⟨he, rfl⟩
      subst he
      go_wp2_with fail
      go_ret3
      exact ⟨.slice none 0 0, .slice none 0 0, rfl, Num.zero _ _, Num.zero _ _, hbl⟩
    · rw [if_neg h0]
      rw [decide_eq_false h0] at hz
      have HZ := Lib.hid hz
      clear hz
      clear hex ha hb ha1 hb1 n1 n2 n3 m1 m2 m3 h
      generalize la.length = l1 at *
      generalize lb.length = l2 at *
      go_enter Tryz.func40, Tryz.ntmps40
      go_wp2_with fail
      refine HEX.out.mono ?_
      rintro e w1 ⟨rfl, rfl⟩
      go_wp2_with fail
      refine HZ.out.mono ?_
      rintro e w2 ⟨he, rfl⟩
      subst he
      go_wp2_with fail
      refine (HDV.out h0).mono ?_
      rintro e w3 ⟨q, r, he, hq, hr, hb3⟩
      subst he
      go_wp2_with fail
      go_ret3
      exact ⟨q, r, rfl, hq, hr, hbl.trans (hb3.mono hbl.size)⟩
  · rw [if_neg h]
    generalize examW [la, lb] = ec at *
    have q1 : (ec == 0) = false := by simp [h]
    have q2 : (ec != 0) = true := by simp [h]
    have HEX := Lib.hid hex
    clear hex ha hb ha1 hb1 h
    generalize la.length = l1 at *
    generalize lb.length = l2 at *
    go_enter Tryz.func40, Tryz.ntmps40
    go_wp2_with fail
    refine HEX.out.mono ?_
    rintro e w1 ⟨rfl, rfl⟩
    go_wp2_with fail
    go_ret3
    exact ⟨.slice none 0 0, .slice none 0 0, rfl, Num.zero _ _, Num.zero _ _, hbl⟩
end Go.Proofs.YtlababdfdjjjaaaGreatDoor
namespace Go.Proofs.YtlababdfdjjjaaaGreatDoor
open Go.RowKit

open Classical in
/-- The root, rounded down. -/
noncomputable def rootN (a k : Nat) : Nat := if h : ∃ r, IsRoot a k r then Classical.choose h else 0
theorem rootN_is (a : Nat) {k : Nat} (hk : 0 < k) : IsRoot a k (rootN a k) := by
  have h := root_exists k hk a
  unfold rootN
  rw [dif_pos h]
  exact Classical.choose_spec h
def smallW (l : List Nat) : Nat × Int := if examW [l] = 0 then (if 64 < bitsOf (val l) then (0, 7) else (val l, 0)) else (0, examW [l])
def bitsW (l : List Nat) : Nat × Int := if examW [l] = 0 then (bitsOf (val l), 0) else (0, examW [l])
def shiftW (l : List Nat) (n : Int) : Nat × Int := if examW [l] = 0 then (if n < -20000 ∨ 20000 < n then (0, 2) else if n < 0 then (val l / 2 ^ (-n).toNat, 0) else fitW (val l * 2 ^ n.toNat)) else (0, examW [l])
def powW (l : List Nat) (k : Int) : Nat × Int := if examW [l] = 0 then (if k < 0 ∨ 20000 < k then (0, 2) else fitW (val l ^ k.toNat)) else (0, examW [l])
noncomputable def rootW (l : List Nat) (k : Int) : Nat × Int := if examW [l] = 0 then (if k < 1 ∨ 64 < k then (0, 2) else (rootN (val l) k.toNat, 0)) else (0, examW [l])

set_option maxRecDepth 100000 in
set_option maxHeartbeats 2000000 in
theorem Bits_any (va : Value) (la : List Nat) (w : World) (ha : Arg w va la) : Calls Tryz.prog 30 #[va] w (fun e w' => e = .returned (.tuple #[.int .i64 ((bitsW la).1 : Int), .int .i64 (bitsW la).2]) ∧ Below w.heap.size w w') := by
  have hex := exam1 va la w ha
  have hbl : Below w.heap.size w (w.alloc (.cells #[va] 24)) := (Below.refl _ w).alloc (Nat.le_refl _) _
  have ha1 := ha.up hbl
  obtain ⟨A, capa, rfl, -⟩ := ha.1.form
  unfold bitsW
  by_cases h : examW [la] = 0
  · obtain ⟨n1, n2, n3⟩ := ha1.num h (by simp)
    rw [if_pos h]
    rw [h] at hex
    have HEX := Lib.hid hex
    have hs := length_any _ _ _ _ n1 (by omega)
    generalize bitsOf (val la) = bb at *
    have HS := Lib.hid hs
    clear hs
    clear hex ha ha1 n1 n2 n3 h
    generalize la.length = l1 at *
    go_enter Tryz.func30, Tryz.ntmps30
    go_wp2_with fail
    refine HEX.out.mono ?_
    rintro e w1 ⟨rfl, rfl⟩
    go_wp2_with fail
    refine HS.out.mono ?_
    rintro e w2 ⟨he, rfl⟩
    subst he
    go_wp2_with fail
    go_ret2
    exact ⟨rfl, hbl⟩
  · rw [if_neg h]
    generalize examW [la] = ec at *
    have q1 : (ec == 0) = false := by simp [h]
    have q2 : (ec != 0) = true := by simp [h]
    have HEX := Lib.hid hex
    clear hex ha ha1 h
    generalize la.length = l1 at *
    go_enter Tryz.func30, Tryz.ntmps30
    go_wp2_with fail
    refine HEX.out.mono ?_
    rintro e w1 ⟨rfl, rfl⟩
    go_wp2_with fail
    go_ret2
    exact ⟨rfl, hbl⟩

set_option maxRecDepth 100000 in
set_option maxHeartbeats 2000000 in
theorem Small_any (va : Value) (la : List Nat) (w : World) (ha : Arg w va la) : Calls Tryz.prog 16 #[va] w (fun e w' => e = .returned (.tuple #[.int .u64 ((smallW la).1 : Int), .int .i64 (smallW la).2]) ∧ Below w.heap.size w w') := by
  have hex := exam1 va la w ha
  have hbl : Below w.heap.size w (w.alloc (.cells #[va] 24)) := (Below.refl _ w).alloc (Nat.le_refl _) _
  have ha1 := ha.up hbl
  obtain ⟨A, capa, rfl, -⟩ := ha.1.form
  unfold smallW
  by_cases h : examW [la] = 0
  · obtain ⟨n1, n2, n3⟩ := ha1.num h (by simp)
    rw [if_pos h]
    rw [h] at hex
    have HEX := Lib.hid hex
    have hs := length_any _ _ _ _ n1 (by omega)
    have hwd : ¬ 64 < bitsOf (val la) → _ := fun hb => word_any _ (val la) 0 _ n1 (by omega) (by omega) (by rw [Nat.pow_zero, Nat.div_one]; exact bits_le_iff.1 (by omega))
    rw [Nat.pow_zero, Nat.div_one] at hwd
    have hvl := val la
    obtain ⟨bb, hbb⟩ : ∃ bb, bb = bitsOf (val la) := ⟨_, rfl⟩
    rw [← hbb] at hs hwd ⊢
    have HWD := Lib.hid hwd
    have HS := Lib.hid hs
    clear hs hwd hbb
    by_cases hb : 64 < bb
    · rw [if_pos hb]
      have hbi : (64 : Int) < (bb : Int) := by omega
      clear hex ha ha1 n1 n2 n3 h
      generalize la.length = l1 at *
      go_enter Tryz.func16, Tryz.ntmps16
      go_wp2_with fail
      refine HEX.out.mono ?_
      rintro e w1 ⟨rfl, rfl⟩
      go_wp2_with fail
      refine HS.out.mono ?_
      rintro e w2 ⟨he, rfl⟩
      subst he
      go_wp2_with fail
      go_ret2
      exact ⟨rfl, hbl⟩
    · rw [if_neg hb]
      have hbi : ¬ (64 : Int) < (bb : Int) := by omega
      generalize val la = vl at *
      clear hex ha ha1 n1 n2 n3 h
      generalize la.length = l1 at *
      go_enter Tryz.func16, Tryz.ntmps16
      go_wp2_with fail
      refine HEX.out.mono ?_
      rintro e w1 ⟨rfl, rfl⟩
      go_wp2_with fail
      refine HS.out.mono ?_
      rintro e w2 ⟨he, rfl⟩
      subst he
      go_wp2_with fail
      refine (HWD.out hb).mono ?_
      rintro e w3 ⟨he, hb3⟩
      subst he
      go_wp2_with fail
      go_ret2
      exact ⟨rfl, hbl.trans (hb3.mono hbl.size)⟩
  · rw [if_neg h]
    generalize examW [la] = ec at *
    have q1 : (ec == 0) = false := by simp [h]
    have q2 : (ec != 0) = true := by simp [h]
    have HEX := Lib.hid hex
    clear hex ha ha1 h
    generalize la.length = l1 at *
    go_enter Tryz.func16, Tryz.ntmps16
    go_wp2_with fail
    refine HEX.out.mono ?_
    rintro e w1 ⟨rfl, rfl⟩
    go_wp2_with fail
    go_ret2
    exact ⟨rfl, hbl⟩

set_option maxRecDepth 100000 in
set_option maxHeartbeats 2000000 in
theorem Pow_any (va : Value) (la : List Nat) (k : Int) (w : World) (ha : Arg w va la) : Calls Tryz.prog 44 #[va, .int .i64 k] w (Res w (powW la k)) := by
  have hex := exam1 va la w ha
  have hbl : Below w.heap.size w (w.alloc (.cells #[va] 24)) := (Below.refl _ w).alloc (Nat.le_refl _) _
  have ha1 := ha.up hbl
  obtain ⟨A, capa, rfl, -⟩ := ha.1.form
  unfold powW
  by_cases h : examW [la] = 0
  · obtain ⟨n1, n2, n3⟩ := ha1.num h (by simp)
    rw [if_pos h]
    rw [h] at hex
    have HEX := Lib.hid hex
    have hpw : ∀ n : Nat, k = (n : Int) → n ≤ 20000 → Calls Tryz.prog 102 #[.slice A la.length capa, .int .i64 k] (w.alloc (.cells #[.slice A la.length capa] 24)) (resV (w.alloc (.cells #[.slice A la.length capa] 24)) (val la ^ n)) := fun n hk hn => by
      subst hk; exact powerWithin_any _ _ n _ n1 n2 hn
    have HPW := Lib.hid hpw
    clear hpw
    by_cases hk : k < 0 ∨ 20000 < k
    · rw [if_pos hk]
      rcases hk with hk | hk
      all_goals
        have hk2 : ¬ (0 ≤ k ∧ k ≤ 20000) := by omega
        clear hex ha ha1 n1 n2 n3 h
        generalize la.length = l1 at *
        go_enter Tryz.func44, Tryz.ntmps44
        go_wp2_with fail
        refine HEX.out.mono ?_
        rintro e w1 ⟨rfl, rfl⟩
        go_wp2_with fail
        go_ret2
        exact ⟨.slice none 0 0, rfl, Num.zero _ _, hbl⟩
    · rw [if_neg hk]
      obtain ⟨n, hn⟩ : ∃ n : Nat, k = (n : Int) := ⟨k.toNat, by omega⟩
      have hpw := HPW.out n hn (by omega)
      rw [show k.toNat = n by omega]
      unfold resV at hpw
      unfold fitW Res
      generalize (if 512 < (dg (val la ^ n)).length then (3 : Int) else 0) = ec at *
      generalize (if 512 < (dg (val la ^ n)).length then 0 else val la ^ n) = rn at *
      have HP := Lib.hid hpw
      have hk3 : 0 ≤ k := by omega
      have hk4 : k ≤ 20000 := by omega
      have hk5 : ¬ k < 0 := by omega
      have hk6 : ¬ 20000 < k := by omega
      clear hpw hn hk
      clear hex ha ha1 n1 n2 n3 h
      generalize la.length = l1 at *
      go_enter Tryz.func44, Tryz.ntmps44
      go_wp2_with fail
      refine HEX.out.mono ?_
      rintro e w1 ⟨rfl, rfl⟩
      go_wp2_with fail
      refine HP.out.mono ?_
      rintro e w2 ⟨v2, he, hn2, hb2⟩
      subst he
      go_wp2_with fail
      go_ret2
      exact ⟨v2, rfl, hn2, hbl.trans (hb2.mono hbl.size)⟩
  · rw [if_neg h]
    generalize examW [la] = ec at *
    have q1 : (ec == 0) = false := by simp [h]
    have q2 : (ec != 0) = true := by simp [h]
    have HEX := Lib.hid hex
    clear hex ha ha1 h
    generalize la.length = l1 at *
    go_enter Tryz.func44, Tryz.ntmps44
    go_wp2_with fail
    refine HEX.out.mono ?_
    rintro e w1 ⟨rfl, rfl⟩
    go_wp2_with fail
    go_ret2
    exact ⟨.slice none 0 0, rfl, Num.zero _ _, hbl⟩

set_option maxRecDepth 100000 in
set_option maxHeartbeats 2000000 in
theorem Root_any (va : Value) (la : List Nat) (k : Int) (w : World) (ha : Arg w va la) : Calls Tryz.prog 46 #[va, .int .i64 k] w (Res w (rootW la k)) := by
  have hex := exam1 va la w ha
  have hbl : Below w.heap.size w (w.alloc (.cells #[va] 24)) := (Below.refl _ w).alloc (Nat.le_refl _) _
  have ha1 := ha.up hbl
  obtain ⟨A, capa, rfl, -⟩ := ha.1.form
  unfold rootW
  by_cases h : examW [la] = 0
  · obtain ⟨n1, n2, n3⟩ := ha1.num h (by simp)
    rw [if_pos h]
    rw [h] at hex
    have HEX := Lib.hid hex
    have hpw : ∀ n : Nat, k = (n : Int) → 1 ≤ n → n ≤ 64 → Calls Tryz.prog 104 #[.slice A la.length capa, .int .i64 k] (w.alloc (.cells #[.slice A la.length capa] 24)) (NumPost (w.alloc (.cells #[.slice A la.length capa] 24)) (rootN (val la) n)) := fun n hk h1 hn => by
      subst hk; exact root_any _ _ n _ _ n1 n2 h1 hn (rootN_is _ h1)
    have HPW := Lib.hid hpw
    clear hpw
    by_cases hk : k < 1 ∨ 64 < k
    · rw [if_pos hk]
      rcases hk with hk | hk
      all_goals
        have hk2 : ¬ (1 ≤ k ∧ k ≤ 64) := by omega
        clear hex ha ha1 n1 n2 n3 h
        generalize la.length = l1 at *
        go_enter Tryz.func46, Tryz.ntmps46
        go_wp2_with fail
        refine HEX.out.mono ?_
        rintro e w1 ⟨rfl, rfl⟩
        go_wp2_with fail
        go_ret2
        exact ⟨.slice none 0 0, rfl, Num.zero _ _, hbl⟩
    · rw [if_neg hk]
      obtain ⟨n, hn⟩ : ∃ n : Nat, k = (n : Int) := ⟨k.toNat, by omega⟩
      have hpw := HPW.out n hn (by omega) (by omega)
      rw [show k.toNat = n by omega]
      unfold Res
      have HP := Lib.hid hpw
      have hk3 : 1 ≤ k := by omega
      have hk4 : k ≤ 64 := by omega
      have hk5 : ¬ k < 1 := by omega
      have hk6 : ¬ 64 < k := by omega
      clear hpw hn hk
      clear hex ha ha1 n1 n2 n3 h
      generalize la.length = l1 at *
      go_enter Tryz.func46, Tryz.ntmps46
      go_wp2_with fail
      refine HEX.out.mono ?_
      rintro e w1 ⟨rfl, rfl⟩
      go_wp2_with fail
      refine HP.out.mono ?_
      rintro e w2 ⟨v2, he, hn2, hb2⟩
      subst he
      go_wp2_with fail
      go_ret2
      exact ⟨v2, rfl, hn2, hbl.trans (hb2.mono hbl.size)⟩
  · rw [if_neg h]
    generalize examW [la] = ec at *
    have q1 : (ec == 0) = false := by simp [h]
    have q2 : (ec != 0) = true := by simp [h]
    have HEX := Lib.hid hex
    clear hex ha ha1 h
    generalize la.length = l1 at *
    go_enter Tryz.func46, Tryz.ntmps46
    go_wp2_with fail
    refine HEX.out.mono ?_
    rintro e w1 ⟨rfl, rfl⟩
    go_wp2_with fail
    go_ret2
    exact ⟨.slice none 0 0, rfl, Num.zero _ _, hbl⟩

set_option maxRecDepth 100000 in
set_option maxHeartbeats 2000000 in
theorem Valid_any (va : Value) (la : List Nat) (w : World) (ha : Arg w va la) : Calls Tryz.prog 18 #[va] w fun e w' => e = .returned (.bool (decide (examW [la] = 0))) ∧ Below w.heap.size w w' := by
  have hex := exam1 va la w ha
  have hbl : Below w.heap.size w (w.alloc (.cells #[va] 24)) := (Below.refl _ w).alloc (Nat.le_refl _) _
  obtain ⟨A, capa, rfl, -⟩ := ha.1.form
  have hd : decide (examW [la] = 0) = (examW [la] == 0) := by simp [BEq.beq]
  rw [hd]
  generalize examW [la] = ec at *
  have HEX := Lib.hid hex
  clear hex ha hd
  generalize la.length = l1 at *
  go_enter Tryz.func18, Tryz.ntmps18
  go_wp2_with fail
  refine HEX.out.mono ?_
  rintro e w1 ⟨rfl, rfl⟩
  go_wp2_with fail
  go_ret
  exact ⟨rfl, hbl⟩
end Go.Proofs.YtlababdfdjjjaaaGreatDoor
namespace Go.Proofs.YtlababdfdjjjaaaGreatDoor
open Go.RowKit

set_option maxRecDepth 100000 in
set_option maxHeartbeats 2000000 in
theorem Shift_any (va : Value) (la : List Nat) (n : Int) (w : World) (ha : Arg w va la) : Calls Tryz.prog 32 #[va, .int .i64 n] w (Res w (shiftW la n)) := by
  have hex := exam1 va la w ha
  have hbl : Below w.heap.size w (w.alloc (.cells #[va] 24)) := (Below.refl _ w).alloc (Nat.le_refl _) _
  have ha1 := ha.up hbl
  obtain ⟨A, capa, rfl, -⟩ := ha.1.form
  unfold shiftW
  by_cases h : examW [la] = 0
  · obtain ⟨n1, n2, n3⟩ := ha1.num h (by simp)
    rw [if_pos h]
    rw [h] at hex
    have HEX := Lib.hid hex
    have hdn : ∀ j : Nat, j ≤ 20000 → Calls Tryz.prog 91 #[.slice A la.length capa, .int .i64 (j : Int)] (w.alloc (.cells #[.slice A la.length capa] 24)) (NumPost (w.alloc (.cells #[.slice A la.length capa] 24)) (val la / 2 ^ j)) := fun j hj => shiftDown_any _ _ j _ n1 (by omega) (by omega)
    have hup : ∀ j : Nat, j ≤ 20000 → Calls Tryz.prog 93 #[.slice A la.length capa, .int .i64 (j : Int)] (w.alloc (.cells #[.slice A la.length capa] 24)) (NumPost (w.alloc (.cells #[.slice A la.length capa] 24)) (val la * 2 ^ j)) := fun j hj => shiftUp_any _ _ j _ n1 (by omega) (by omega)
    have hln : ∀ j : Nat, j ≤ 20000 → (dg (val la * 2 ^ j)).length ≤ 100000 := by
      intro j hj
      have h1 := len_mul (val la) (2 ^ j)
      have h2 := len_pow_two (Nat.le_refl (2 ^ j))
      omega
    have HDN := Lib.hid hdn
    have HUP := Lib.hid hup
    have HLN := Lib.hid hln
    clear hdn hup hln
    by_cases hn : n < -20000 ∨ 20000 < n
    · rw [if_pos hn]
      rcases hn with hn | hn
      all_goals
        have hk2 : ¬ (-20000 ≤ n ∧ n ≤ 20000) := by omega
        clear hex ha ha1 n1 n2 n3 h
        generalize la.length = l1 at *
        go_enter Tryz.func32, Tryz.ntmps32
        go_wp2_with fail
        refine HEX.out.mono ?_
        rintro e w1 ⟨rfl, rfl⟩
        go_wp2_with fail
        go_ret2
        exact ⟨.slice none 0 0, rfl, Num.zero _ _, hbl⟩
    · rw [if_neg hn]
      have hk3 : -20000 ≤ n := by omega
      have hk4 : n ≤ 20000 := by omega
      have hk5 : ¬ n < -20000 := by omega
      have hk6 : ¬ 20000 < n := by omega
      by_cases hneg : n < 0
      · rw [if_pos hneg]
        obtain ⟨j, hj⟩ : ∃ j : Nat, -n = (j : Int) := ⟨(-n).toNat, by omega⟩
        rw [show (-n).toNat = j by omega]
        have hd := HDN.out j (by omega)
        rw [← hj] at hd
        have HD := Lib.hid hd
        clear hd hj hn
        clear hex ha ha1 n1 n2 n3 h
        generalize la.length = l1 at *
        go_enter Tryz.func32, Tryz.ntmps32
        go_wp2_with fail
        refine HEX.out.mono ?_
        rintro e w1 ⟨rfl, rfl⟩
        go_wp2_with fail
        refine HD.out.mono ?_
        rintro e w2 ⟨v2, he, hn2, hb2⟩
        subst he
        go_wp2_with fail
        go_ret2
        exact ⟨v2, rfl, hn2, hbl.trans (hb2.mono hbl.size)⟩
      · rw [if_neg hneg]
        obtain ⟨j, hj⟩ : ∃ j : Nat, n = (j : Int) := ⟨n.toNat, by omega⟩
        rw [show n.toNat = j by omega]
        have hd := HUP.out j (by omega)
        have hwi : ∀ W v, Num W W.heap.size v (val la * 2 ^ j) → _ := fun W v hv => within_any v (val la * 2 ^ j) W hv (by have := HLN.out j (by omega); omega)
        rw [← hj] at hd
        unfold fitW Res
        generalize (if 512 < (dg (val la * 2 ^ j)).length then (3 : Int) else 0) = ec at *
        generalize (if 512 < (dg (val la * 2 ^ j)).length then 0 else val la * 2 ^ j) = rn at *
        have HD := Lib.hid hd
        have HWI := Lib.hid hwi
        clear hd hwi hj hn
        clear hex ha ha1 n1 n2 n3 h
        generalize la.length = l1 at *
        go_enter Tryz.func32, Tryz.ntmps32
        go_wp2_with fail
        refine HEX.out.mono ?_
        rintro e w1 ⟨rfl, rfl⟩
        go_wp2_with fail
        refine HD.out.mono ?_
        rintro e w2 ⟨v2, he, hn2, hb2⟩
        subst he
        go_wp2_with fail
        refine (HWI.out w2 v2 hn2).mono ?_
        rintro e w3 ⟨v3, he, hn3, rfl⟩
        subst he
        go_wp2_with fail
        go_ret2
        exact ⟨v3, rfl, hn3, hbl.trans (hb2.mono hbl.size)⟩
  · rw [if_neg h]
    generalize examW [la] = ec at *
    have q1 : (ec == 0) = false := by simp [h]
    have q2 : (ec != 0) = true := by simp [h]
    have HEX := Lib.hid hex
    clear hex ha ha1 h
    generalize la.length = l1 at *
    go_enter Tryz.func32, Tryz.ntmps32
    go_wp2_with fail
    refine HEX.out.mono ?_
    rintro e w1 ⟨rfl, rfl⟩
    go_wp2_with fail
    go_ret2
    exact ⟨.slice none 0 0, rfl, Num.zero _ _, hbl⟩
end Go.Proofs.YtlababdfdjjjaaaGreatDoor
