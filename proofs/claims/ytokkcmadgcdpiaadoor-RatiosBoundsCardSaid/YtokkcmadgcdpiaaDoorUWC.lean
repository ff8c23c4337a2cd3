import Derived.Test.YtokkcmadgcdpiaaDoorUWB
import Derived.Deep.RegionHeld3
namespace Go.Proofs.YtokkcmadgcdpiaaDoor.Wd
open Go.RowKit
structure StI (X Y p q r s x y : Nat) (odd : Bool) : Prop where
  le : Lehm X Y p q r s x y odd
  ps : p ≤ s
  qs : q ≤ s
  s1 : 0 < s
  sure : (r = 0 ∧ p = 1 ∧ q = 0 ∧ s = 1) ∨ (s ≤ y ∧ q + s ≤ x - y)
theorem StI.first {X Y : Nat} (h : Y ≤ X) : StI X Y 1 0 0 1 X Y false := ⟨lehm_start h, by omega, by omega, by omega, .inl ⟨rfl, rfl, rfl, rfl⟩⟩
/-- What the next steps are. -/
theorem StI.then {X Y p q r s x y : Nat} {odd : Bool} (h : StI X Y p q r s x y odd) (hy : 0 < y) (hX : X < 18446744073709551616) :
    Lehm X Y r s (p + x / y * r) (q + x / y * s) y (x % y) (!odd) ∧ r ≤ q + x / y * s ∧ s ≤ q + x / y * s ∧ p + x / y * r < 18446744073709551616 ∧ q + x / y * s < 18446744073709551616 := by
  have hl := lehm_then h.le hy
  have hn : 1 ≤ x / y := (Nat.one_le_div_iff hy).2 h.le.yx
  have h1 : s ≤ x / y * s := Nat.le_mul_of_pos_left _ (by omega)
  have h2 := h.le.rs
  have h3 := hl.hX
  have h4 := hl.rs
  have h5 : q + x / y * s ≤ (q + x / y * s) * y := Nat.le_mul_of_pos_right _ hy
  refine ⟨hl, by omega, by omega, ?_, ?_⟩
  · omega
  · omega
theorem StI.next {X Y p q r s x y : Nat} {odd : Bool} (h : StI X Y p q r s x y odd) (hy : 0 < y) (hX : X < 18446744073709551616) (h1 : q + x / y * s ≤ x % y) (h2 : s + (q + x / y * s) ≤ y - x % y) :
    StI X Y r s (p + x / y * r) (q + x / y * s) y (x % y) (!odd) := by
  obtain ⟨hl, a1, a2, -, -⟩ := h.then hy hX
  exact ⟨hl, a1, a2, Nat.lt_of_lt_of_le h.s1 a2, .inr ⟨h1, h2⟩⟩

end Go.Proofs.YtokkcmadgcdpiaaDoor.Wd
namespace Go.Proofs.YtokkcmadgcdpiaaDoor.Wd
open Go.RowKit

theorem dg_one : dg 1 = [1] := by
  rw [dg_pos (by decide), Nat.mod_eq_of_lt (show 1 < LB by rw [LB_eq]; omega), Nat.div_eq_of_lt (show 1 < LB by rw [LB_eq]; omega), dg_zero]
theorem one_new (w : World) : Num (w.alloc (.cells #[.int .u32 1] 97)) (w.heap.size + 1) (.slice (some ⟨w.heap.size, 0, none⟩) 1 1) 1 := by
  have hrow : Row (w.alloc (.cells #[.int .u32 1] 97)) w.heap.size [1] := heap_alloc_new w _
  have h := hrow.whole (by intro x hx; simp at hx; rw [hx, LB_eq]; omega) 1 (by simp)
  rw [World.size_alloc] at h
  unfold Num
  rw [dg_one]; exact h
theorem pow_half (a k : Nat) : a ^ k = a ^ (k / 2) * a ^ (k / 2) * a ^ (k % 2) := by
  rw [← Nat.pow_add, ← Nat.pow_add]; congr 1; omega

set_option maxRecDepth 100000 in
set_option maxHeartbeats 2000000 in
theorem power_any (va : Value) (a : Nat) : ∀ (k : Nat) (w : World), Num w w.heap.size va a → k ≤ 1000000 → (∀ j, j ≤ k → (dg (a ^ j)).length ≤ 1000000) → (dg a).length ≤ 1000000 →
    Calls Tryd.prog 104 #[va, .int .i64 (k : Int)] w (NumPost w (a ^ k)) := by
  intro k
  induction k using Nat.strongRecOn with
  | ind k ih =>
    intro w ha hk hlen hla
    by_cases hk0 : k = 0
    · subst hk0
      obtain ⟨A, capa, rfl, -⟩ := ha.form
      have hone := one_new w
      have HO := Lib.hid hone
      clear ih ha hlen hla hone
      generalize (dg a).length = la at *
      go_enter Tryd.func104, Tryd.ntmps104
      go_wp2_with fail
      go_ret
      refine ⟨_, rfl, ?_, (Below.refl _ w).alloc (Nat.le_refl _) _⟩
      rw [Nat.pow_zero]
      have := HO.out
      rw [World.size_alloc]
      exact this
    · obtain ⟨h, hh⟩ : ∃ h, h = k / 2 := ⟨_, rfl⟩
      obtain ⟨m, hm⟩ : ∃ m, m = k % 2 := ⟨_, rfl⟩
      have hcall := ih h (by omega) w ha (by omega) (fun j hj => hlen j (by omega)) hla
      have hp : a ^ k = a ^ h * a ^ h * a ^ m := by rw [hh, hm]; exact pow_half a k
      have hp2 : a ^ h * a ^ h = a ^ (h + h) := (Nat.pow_add ..).symm
      have hl1 := hlen h (by omega)
      have hl2 := hlen (h + h) (by omega)
      have hpr : ∀ W v, Num W W.heap.size v (a ^ h) → Calls Tryd.prog 90 #[v, v] W (NumPost W (a ^ (h + h))) := by
        intro W v hv
        have := product_any v v _ _ W hv hv (by omega) (by omega)
        rw [val_dg, hp2] at this
        exact this
      have hpa : ∀ W v, Num W W.heap.size v (a ^ (h + h)) → Below w.heap.size w W → Calls Tryd.prog 90 #[v, va] W (NumPost W (a ^ (h + h) * a)) := by
        intro W v hv hb
        have := product_any v va _ _ W hv (Lim.up ha hb) (by omega) (by omega)
        rw [val_dg, val_dg] at this
        exact this
      have e1 : (k : Int) / 2 = (h : Int) := by omega
      have e1t : (k : Int).tdiv 2 = (h : Int) := by rw [Int.tdiv_eq_ediv_of_nonneg (Int.natCast_nonneg _)]; exact e1
      have e2 : (k : Int) % 2 = (m : Int) := by omega
      have e2t : (k : Int).tmod 2 = (m : Int) := by rw [Int.tmod_eq_emod_of_nonneg (Int.natCast_nonneg _)]; exact e2
      have q0 : ((k : Int) == 0) = false := beq_false_of_ne (by omega)
      have hk1 : (0 : Int) ≤ (k : Int) := Int.natCast_nonneg _
      rw [hp2] at hp
      rw [hp]
      obtain ⟨A, capa, rfl, -⟩ := ha.form
      have HC := Lib.hid hcall
      have HPR := Lib.hid hpr
      have HPA := Lib.hid hpa
      have E1 := Lib.hid e1
      have hm2 : m = 0 ∨ m = 1 := by omega
      clear ih ha hlen hla hcall hpr hpa hp hp2 hl1 hl2 hh hm
      generalize (dg a).length = la at *
      rcases hm2 with rfl | rfl
      · have q1 : (((0 : Nat) : Int) == 1) = false := by decide
        rw [Nat.pow_zero, Nat.mul_one]
        go_enter Tryd.func104, Tryd.ntmps104
        go_wp2_with fail
        refine HC.out.mono ?_
        rintro e w1 ⟨v1, he, hn1, hb1⟩
        subst he
        go_wp2_with fail
        refine (HPR.out w1 v1 hn1).mono ?_
        rintro e w2 ⟨v2, he, hn2, hb2⟩
        subst he
        go_wp2_with fail
        go_ret
        exact ⟨v2, rfl, hn2, hb1.trans (hb2.mono hb1.size)⟩
      · have q1 : (((1 : Nat) : Int) == 1) = true := by decide
        rw [Nat.pow_one]
        go_enter Tryd.func104, Tryd.ntmps104
        go_wp2_with fail
        refine HC.out.mono ?_
        rintro e w1 ⟨v1, he, hn1, hb1⟩
        subst he
        go_wp2_with fail
        refine (HPR.out w1 v1 hn1).mono ?_
        rintro e w2 ⟨v2, he, hn2, hb2⟩
        subst he
        have hb12 := hb1.trans (hb2.mono hb1.size)
        go_wp2_with fail
        refine (HPA.out w2 v2 hn2 hb12).mono ?_
        rintro e w3 ⟨v3, he, hn3, hb3⟩
        subst he
        go_wp2_with fail
        go_ret
        exact ⟨v3, rfl, hn3, hb12.trans (hb3.mono hb12.size)⟩

/-- A result that may be too long. -/
def resV (w : World) (n : Nat) (e : Ending) (w' : World) : Prop :=
  ∃ v, e = .returned (.tuple #[v, .int .i64 (if 512 < (dg n).length then 3 else 0)]) ∧ Num w' w'.heap.size v (if 512 < (dg n).length then 0 else n) ∧ Below w.heap.size w w'

set_option maxRecDepth 100000 in
theorem within_any (va : Value) (n : Nat) (w : World) (ha : Num w w.heap.size va n) (hla : (dg n).length ≤ 100000000) :
    Calls Tryd.prog 89 #[va] w fun e w' => ∃ v, e = .returned (.tuple #[v, .int .i64 (if 512 < (dg n).length then 3 else 0)]) ∧ Num w w.heap.size v (if 512 < (dg n).length then 0 else n) ∧ w = w' := by
  obtain ⟨A, capa, rfl, -⟩ := ha.form
  by_cases h : 512 < (dg n).length
  · rw [if_pos h, if_pos h]
    clear ha
    generalize (dg n).length = la at *
    go_enter Tryd.func89, Tryd.ntmps89
    go_wp2_with fail
    go_ret2
    exact ⟨.slice none 0 0, rfl, Num.zero _ _, rfl⟩
  · rw [if_neg h, if_neg h]
    have HA := Lib.hid ha
    clear ha
    generalize (dg n).length = la at *
    go_enter Tryd.func89, Tryd.ntmps89
    go_wp2_with fail
    go_ret2
    exact ⟨_, rfl, HA.out, rfl⟩
end Go.Proofs.YtokkcmadgcdpiaaDoor.Wd
namespace Go.Proofs.YtokkcmadgcdpiaaDoor.Wd
open Go.RowKit

theorem len_two {n N : Nat} (h : n < 2 ^ (32 * N)) : (dg n).length ≤ N := dg_le.2 (by rw [LBpow]; exact h)
theorem pow_lens {a k j B : Nat} (hB : (bitsOf a - 1) * k < B) (hj : j ≤ k) : (dg (a ^ j)).length ≤ B := by
  refine len_two ?_
  rcases Nat.lt_or_ge a 2 with h | h
  · have h1 : a ^ j ≤ 1 := by
      rcases Nat.eq_zero_or_pos j with h2 | h2
      · rw [h2]; exact Nat.le_refl _
      · rcases (show a = 0 ∨ a = 1 by omega) with rfl | rfl
        · rw [Nat.zero_pow h2]; omega
        · rw [Nat.one_pow]; omega
    have h2 : 2 ^ 1 ≤ 2 ^ (32 * B) := Nat.pow_le_pow_right (by omega) (by omega)
    omega
  · have h0 : a ≠ 0 := by omega
    have h1 : 2 ≤ bitsOf a := by
      rcases Nat.lt_or_ge (bitsOf a) 2 with h2 | h2
      · have := bits_lt a
        have h3 : 2 ^ bitsOf a ≤ 2 ^ 1 := Nat.pow_le_pow_right (by omega) (by omega)
        omega
      · exact h2
    obtain ⟨c, hc⟩ : ∃ c, bitsOf a = c + 1 := ⟨bitsOf a - 1, by omega⟩
    rw [hc, Nat.add_sub_cancel] at hB
    have h2 : a ^ j ≤ (2 ^ (c + 1)) ^ j := Nat.pow_le_pow_left (by have := bits_lt a; rw [hc] at this; omega) j
    rw [← Nat.pow_mul] at h2
    have h3 : c * j ≤ c * k := Nat.mul_le_mul_left _ hj
    have h4 : j ≤ c * j := Nat.le_mul_of_pos_left _ (by omega)
    have h5 : (c + 1) * j = c * j + j := by rw [Nat.add_mul, Nat.one_mul]
    have h6 : 2 ^ ((c + 1) * j) < 2 ^ (32 * B) := Nat.pow_lt_pow_right (by omega) (by omega)
    omega
theorem pow_long {a k N : Nat} (ha : a ≠ 0) (h : 32 * N ≤ (bitsOf a - 1) * k) : N < (dg (a ^ k)).length := by
  refine dg_gt.2 ?_
  rw [LBpow]
  have h1 : (2 ^ (bitsOf a - 1)) ^ k ≤ a ^ k := Nat.pow_le_pow_left (bits_le ha) k
  rw [← Nat.pow_mul] at h1
  exact Nat.le_trans (Nat.pow_le_pow_right (by omega) h) h1

set_option maxRecDepth 100000 in
set_option maxHeartbeats 2000000 in
theorem powerWithin_any (va : Value) (a k : Nat) (w : World) (ha : Num w w.heap.size va a) (hla : (dg a).length ≤ 512) (hk : k ≤ 20000) :
    Calls Tryd.prog 88 #[va, .int .i64 (k : Int)] w (resV w (a ^ k)) := by
  have hbits : bitsOf a ≤ 32 * (dg a).length := bits_le_iff.2 (by rw [← LBpow]; exact lt_dg a)
  have hln := length_any va a w _ ha (by omega)
  obtain ⟨L, hL⟩ : ∃ L, L = bitsOf a := ⟨_, rfl⟩
  rw [← hL] at hln hbits
  obtain ⟨X, hX⟩ : ∃ X : Int, X = ((L : Int) - 1) * (k : Int) := ⟨_, rfl⟩
  have hXb : X ≤ 16384 * 20000 ∧ -20000 ≤ X := by
    rcases Nat.eq_zero_or_pos L with h | h
    · subst h; rw [hX]; simp; omega
    · obtain ⟨c, rfl⟩ : ∃ c, L = c + 1 := ⟨L - 1, by omega⟩
      have h1 : c * k ≤ 16384 * 20000 := Nat.mul_le_mul (by omega) hk
      have h2 : X = ((c * k : Nat) : Int) := by rw [hX, Int.natCast_mul]; congr 1; omega
      omega
  have hw : IntKind.i64.wrap (((L : Int) - 1) * (k : Int)) = X := by rw [← hX]; exact IntWalk.i64_in _ (by omega)
  have hXn : 0 < L → X = (((L - 1) * k : Nat) : Int) := by
    intro h
    rw [hX, Int.natCast_mul]; congr 1; omega
  have hX0 : L = 0 → X ≤ 0 := by intro h; rw [hX, h]; simp
  have hkk : (0 : Int) ≤ (k : Int) := Int.natCast_nonneg _
  obtain ⟨A, capa, rfl, -⟩ := ha.form
  by_cases hge : (16384 : Int) ≤ X
  · have hL0 : 0 < L := by
      rcases Nat.eq_zero_or_pos L with h | h
      · have := hX0 h; omega
      · exact h
    have ha0 : a ≠ 0 := by intro h; rw [h] at hL; rw [hL] at hL0; exact absurd hL0 (by decide)
    have hlong : 512 < (dg (a ^ k)).length := by
      refine pow_long ha0 ?_
      rw [← hL]
      have := hXn hL0
      omega
    unfold resV
    rw [if_pos hlong, if_pos hlong]
    have HLN := Lib.hid hln
    have hL1 : L ≤ 1000000 := by omega
    clear hln hlong ha hX hL hXn hX0 hla hbits ha0
    generalize (dg a).length = la at *
    go_enter Tryd.func88, Tryd.ntmps88
    go_wp2_with fail
    refine HLN.out.mono ?_
    rintro e w1 ⟨rfl, rfl⟩
    go_wp2_with fail
    go_ret2
    exact ⟨.slice none 0 0, rfl, Num.zero _ _, Below.refl _ _⟩
  · obtain ⟨B, hB⟩ : ∃ B, B = 16385 := ⟨_, rfl⟩
    have hlens : ∀ j, j ≤ k → (dg (a ^ j)).length ≤ 1000000 := by
      intro j hj
      have h1 : (bitsOf a - 1) * k < B := by
        rw [← hL]
        rcases Nat.eq_zero_or_pos L with h | h
        · rw [h, Nat.zero_sub, Nat.zero_mul]; omega
        · have := hXn h; omega
      have := pow_lens h1 hj
      omega
    have hpw := power_any _ a k w ha (by omega) hlens (by omega)
    have hwi : ∀ W v, Num W W.heap.size v (a ^ k) → _ := fun W v hv => within_any v (a ^ k) W hv (by have := hlens k (Nat.le_refl _); omega)
    unfold resV
    generalize (if 512 < (dg (a ^ k)).length then (3 : Int) else 0) = ec at *
    generalize (if 512 < (dg (a ^ k)).length then 0 else a ^ k) = rn at *
    have HLN := Lib.hid hln
    have HPW := Lib.hid hpw
    have HWI := Lib.hid hwi
    have hL1 : L ≤ 1000000 := by omega
    clear hln hpw hwi hlens ha hX hL hXn hX0 hla hbits hB
    generalize (dg a).length = la at *
    go_enter Tryd.func88, Tryd.ntmps88
    go_wp2_with fail
    refine HLN.out.mono ?_
    rintro e w1 ⟨rfl, rfl⟩
    go_wp2_with fail
    refine HPW.out.mono ?_
    rintro e w2 ⟨v2, he, hn2, hb2⟩
    subst he
    go_wp2_with fail
    refine (HWI.out w2 v2 hn2).mono ?_
    rintro e w3 ⟨v3, he, hn3, rfl⟩
    subst he
    go_wp2_with fail
    go_ret2
    exact ⟨v3, rfl, hn3, hb2⟩
end Go.Proofs.YtokkcmadgcdpiaaDoor.Wd
namespace Go.Proofs.YtokkcmadgcdpiaaDoor.Wd
open Go.RowKit

/-- The error of bad arguments. -/
def examW (ls : List (List Nat)) : Int := if ls.any (fun l => decide (512 < l.length)) then 3 else if ls.any (fun l => decide (l.getLast? = some 0)) then 2 else 0
theorem examW_long {ls : List (List Nat)} {k : Nat} {l : List Nat} (h : ls[k]? = some l) (hl : 512 < l.length) : examW ls = 3 := by
  unfold examW
  rw [if_pos]
  rw [List.any_eq_true]
  exact ⟨l, List.mem_of_getElem? h, decide_eq_true hl⟩
theorem examW_short {ls : List (List Nat)} (h : ∀ (k : Nat) (l : List Nat), k < ls.length → ls[k]? = some l → ¬ 512 < l.length) : examW ls = if ls.any (fun l => decide (l.getLast? = some 0)) then 2 else 0 := by
  unfold examW
  rw [if_neg]
  rw [List.any_eq_true]
  rintro ⟨l, hl, hd⟩
  obtain ⟨k, hk⟩ := List.mem_iff_getElem?.1 hl
  exact h k l (List.getElem?_eq_some_iff.1 hk).1 hk (of_decide_eq_true hd)

def ExRel (w : World) (ls : List (List Nat)) (P : List Nat → Prop) (i : Value) (wr : World) : Prop := ∃ k : Nat, k ≤ ls.length ∧ i = .int .i64 (k : Int) ∧ (∀ (j : Nat) (l : List Nat), j < k → ls[j]? = some l → ¬ P l) ∧ w = wr

set_option maxRecDepth 100000 in
set_option maxHeartbeats 2000000 in
theorem examine_any (g cap B : Nat) (vs : List Value) (ls : List (List Nat)) (w : World) (hlen : vs.length = ls.length) (hn : ls.length ≤ 1000) (hcells : ∀ (i : Nat) (v : Value), vs[i]? = some v → w.cell? ⟨g, i, none⟩ = some v)
    (hl : ∀ (i : Nat) (v : Value) (l : List Nat), vs[i]? = some v → ls[i]? = some l → Lim w B v l ∧ l.length ≤ 100000000) :
    Calls Tryd.prog 73 #[.slice (some ⟨g, 0, none⟩) ls.length cap] w fun e w' => e = .returned (.int .i64 (examW ls)) ∧ w = w' := by
  have hget : ∀ k, k < ls.length → ∃ A c l, ls[k]? = some l ∧ w.cell? ⟨g, k, none⟩ = some (.slice A l.length c) ∧ Lim w B (.slice A l.length c) l ∧ l.length ≤ 100000000 := by
    intro k hk
    have h1 : vs[k]? = some (vs[k]'(by omega)) := List.getElem?_eq_getElem (by omega)
    have h2 : ls[k]? = some (ls[k]'hk) := List.getElem?_eq_getElem hk
    obtain ⟨h3, h4⟩ := hl k _ _ h1 h2
    obtain ⟨A, c, e, -⟩ := h3.form
    have h5 := hcells k _ h1
    rw [e] at h3 h5
    exact ⟨A, c, _, h2, h5, h3, h4⟩
  have HG := Lib.hid hget
  clear hl hcells hget hlen
  go_enter Tryd.func73, Tryd.ntmps73
  go_wp2_with fail
  go_loopw [9] (fun i wr => ExRel w ls (fun l => 512 < l.length) i wr) (fun i _ => ls.length - (intOf i).toNat)
  case atStart => exact ⟨0, Nat.zero_le _, rfl, (fun j l hj => by omega), rfl⟩
  case round =>
    obtain ⟨k, hk, rfl, hno, rfl⟩ := hrel
    by_cases hlt : k < ls.length
    · obtain ⟨A, c, l, h1, h2, h3, h4⟩ := HG.out k hlt
      have hklt : (k : Int) < (ls.length : Int) := by omega
      have hk0 : (0 : Int) ≤ (k : Int) := Int.natCast_nonneg _
      by_cases hbig : 512 < l.length
      · have hex := examW_long h1 hbig
        have hbi : (512 : Int) < (l.length : Int) := by omega
        have HEX := Lib.hid hex
        clear hex h1 hno h3
        go_wp2_with fail
        go_ret
        exact ⟨by rw [HEX.out]; rfl, rfl⟩
      · have hno' : ∀ (j : Nat) (l' : List Nat), j < k + 1 → ls[j]? = some l' → ¬ 512 < l'.length := by
          intro j l' hj hl'
          rcases Nat.lt_or_ge j k with h | h
          · exact hno j l' h hl'
          · have : j = k := by omega
            subst this
            rw [h1] at hl'
            cases hl'
            exact hbig
        have hbi : ¬ (512 : Int) < (l.length : Int) := by omega
        have HNO := Lib.hid hno'
        clear hno' hno h1 h3
        go_wp2_with fail
        first
          | exact ⟨⟨k + 1, by omega, by first | rfl | go_num, HNO.out, rfl⟩, by simp [intOf]; omega⟩
          | (go_roundw
             case rel => exact ⟨k + 1, by omega, by first | rfl | go_num, HNO.out, rfl⟩
             case measure => simp [intOf]; omega)
    · obtain rfl : k = ls.length := by omega
      have hsh := examW_short hno
      have HSH := Lib.hid hsh
      clear hsh hno
      go_wp2_with fail
      go_loopw [19] (fun i wr' => ExRel w ls (fun l => l.getLast? = some 0) i wr') (fun i _ => ls.length - (intOf i).toNat)
      case atStart => exact ⟨0, Nat.zero_le _, rfl, (fun j l hj => by omega), rfl⟩
      case round =>
        clear hk
        obtain ⟨k, hk, rfl, hno, rfl⟩ := hrel
        by_cases hlt2 : k < ls.length
        · obtain ⟨A, c, l, h1, h2, h3, h4⟩ := HG.out k hlt2
          have hklt : (k : Int) < (ls.length : Int) := by omega
          have hk0 : (0 : Int) ≤ (k : Int) := Int.natCast_nonneg _
          have hnext : l.getLast? ≠ some 0 → ∀ (j : Nat) (l' : List Nat), j < k + 1 → ls[j]? = some l' → ¬ l'.getLast? = some 0 := by
            intro hne j l' hj hl'
            rcases Nat.lt_or_ge j k with h | h
            · exact hno j l' h hl'
            · have : j = k := by omega
              subst this
              rw [h1] at hl'
              cases hl'
              exact hne
          rcases Nat.eq_zero_or_pos l.length with hz | hz
          · have hnil := List.eq_nil_of_length_eq_zero hz
            have HNO := Lib.hid (hnext (by rw [hnil]; simp))
            rw [hz] at h2
            clear hnext hno h1 h3 hnil hz h4
            go_wp2_with fail
            first
              | exact ⟨⟨k + 1, by omega, by first | rfl | go_num, HNO.out, rfl⟩, by simp [intOf]; omega⟩
              | (go_roundw
                 case rel => exact ⟨k + 1, by omega, by first | rfl | go_num, HNO.out, rfl⟩
                 case measure => simp [intOf]; omega)
          · obtain ⟨n, hn1⟩ : ∃ n, l.length = n + 1 := ⟨l.length - 1, by omega⟩
            obtain ⟨x, hx⟩ : ∃ x, l[n]? = some x := ⟨l[n]'(by omega), List.getElem?_eq_getElem (by omega)⟩
            obtain ⟨g', o', rfl, hg', c0⟩ := h3.cell hx
            have hlast : l.getLast? = some x := by rw [List.getLast?_eq_getElem?, hn1, Nat.add_sub_cancel]; exact hx
            have hx1 := Lim.lt h3.2 hx
            rw [hn1] at h2
            by_cases hx0 : x = 0
            · subst hx0
              have hany : ls.any (fun l => decide (l.getLast? = some 0)) = true := by
                rw [List.any_eq_true]
                exact ⟨l, List.mem_of_getElem? h1, decide_eq_true hlast⟩
              have hex := HSH.out
              rw [hany] at hex
              have HEX := Lib.hid hex
              clear hex hany hnext hno h1 h3 hx hlast
              go_wp2_with fail
              go_ret
              exact ⟨by rw [HEX.out]; rfl, rfl⟩
            · have HNO := Lib.hid (hnext (by rw [hlast]; intro h; injection h with h; exact hx0 h))
              have q1 : ((x : Int) == 0) = false := by simp [hx0]
              clear hnext hno h1 h3 hx hlast
              go_wp2_with fail
              first
                | exact ⟨⟨k + 1, by omega, by first | rfl | go_num, HNO.out, rfl⟩, by simp [intOf]; omega⟩
                | (go_roundw
                   case rel => exact ⟨k + 1, by omega, by first | rfl | go_num, HNO.out, rfl⟩
                   case measure => simp [intOf]; omega)
        · obtain rfl : k = ls.length := by omega
          have hany : ls.any (fun l => decide (l.getLast? = some 0)) = false := by
            rw [List.any_eq_false]
            intro l hl
            obtain ⟨j, hj⟩ := List.mem_iff_getElem?.1 hl
            have := hno j l (List.getElem?_eq_some_iff.1 hj).1 hj
            simpa using this
          have hex := HSH.out
          rw [hany] at hex
          have HEX := Lib.hid hex
          clear hex hany hno
          go_wp2_with fail
          go_ret
          exact ⟨by rw [HEX.out]; rfl, rfl⟩
end Go.Proofs.YtokkcmadgcdpiaaDoor.Wd
namespace Go.Proofs.YtokkcmadgcdpiaaDoor.Wd
open Go.RowKit

/-- An argument: whatever limbs. -/
def Arg (w : World) (v : Value) (l : List Nat) : Prop := Lim w w.heap.size v l ∧ l.length ≤ 100000000
theorem Arg.up {w w' : World} {v : Value} {l : List Nat} (h : Arg w v l) (hb : Below w.heap.size w w') : Arg w' v l := ⟨h.1.up hb, h.2⟩
theorem exam1 (v : Value) (l : List Nat) (w : World) (h : Arg w v l) :
    Calls Tryd.prog 73 #[.slice (some ⟨w.heap.size, 0, none⟩) 1 1] (w.alloc (.cells #[v] 53)) fun e w' => e = .returned (.int .i64 (examW [l])) ∧ w.alloc (.cells #[v] 53) = w' := by
  have hb : Below w.heap.size w (w.alloc (.cells #[v] 53)) := (Below.refl _ w).alloc (Nat.le_refl _) _
  refine examine_any w.heap.size 1 w.heap.size [v] [l] _ rfl (by simp) ?_ ?_
  · intro i u hu
    rw [Go.Joins.cell_of_block (World.alloc_heap_new w _) i]
    simpa using hu
  · intro i u l' hu hl'
    match i, hu, hl' with
    | 0, hu, hl' =>
      simp at hu hl'
      subst hu hl'
      exact ⟨h.1.below hb, h.2⟩
theorem exam2 (va vb : Value) (la lb : List Nat) (w : World) (ha : Arg w va la) (hb : Arg w vb lb) :
    Calls Tryd.prog 73 #[.slice (some ⟨w.heap.size, 0, none⟩) 2 2] (w.alloc (.cells #[va, vb] 53)) fun e w' => e = .returned (.int .i64 (examW [la, lb])) ∧ w.alloc (.cells #[va, vb] 53) = w' := by
  have hbl : Below w.heap.size w (w.alloc (.cells #[va, vb] 53)) := (Below.refl _ w).alloc (Nat.le_refl _) _
  refine examine_any w.heap.size 2 w.heap.size [va, vb] [la, lb] _ rfl (by simp) ?_ ?_
  · intro i u hu
    rw [Go.Joins.cell_of_block (World.alloc_heap_new w _) i]
    simpa using hu
  · intro i u l' hu hl'
    match i, hu, hl' with
    | 0, hu, hl' =>
      simp at hu hl'
      subst hu hl'
      exact ⟨ha.1.below hbl, ha.2⟩
    | 1, hu, hl' =>
      simp at hu hl'
      subst hu hl'
      exact ⟨hb.1.below hbl, hb.2⟩
theorem examW_ok {ls : List (List Nat)} (h : examW ls = 0) : ∀ l ∈ ls, l.length ≤ 512 ∧ l.getLast? ≠ some 0 := by
  unfold examW at h
  split at h
  · cases h
  · rename_i h1
    split at h
    · cases h
    · rename_i h2
      intro l hl
      rw [List.any_eq_true] at h1 h2
      refine ⟨?_, fun h3 => h2 ⟨l, hl, decide_eq_true h3⟩⟩
      rcases Nat.lt_or_ge 512 l.length with h4 | h4
      · exact absurd ⟨l, hl, decide_eq_true h4⟩ h1
      · exact h4
theorem Arg.num {w : World} {v : Value} {l : List Nat} {ls : List (List Nat)} (h : Arg w v l) (he : examW ls = 0) (hm : l ∈ ls) : Num w w.heap.size v (val l) ∧ (dg (val l)).length ≤ 512 ∧ dg (val l) = l := by
  obtain ⟨h1, h2⟩ := examW_ok he l hm
  have e := dg_val ⟨h.1.2, h2⟩
  refine ⟨?_, by rw [e]; exact h1, e⟩
  show Lim w w.heap.size v (dg (val l))
  rw [e]; exact h.1
/-- A number and an error number. -/
def Res (w : World) (r : Nat × Int) (e : Ending) (w' : World) : Prop := ∃ v, e = .returned (.tuple #[v, .int .i64 r.2]) ∧ Num w' w'.heap.size v r.1 ∧ Below w.heap.size w w'
def fitW (n : Nat) : Nat × Int := (if 512 < (dg n).length then 0 else n, if 512 < (dg n).length then 3 else 0)
def mulW (la lb : List Nat) : Nat × Int := if examW [la, lb] = 0 then fitW (val la * val lb) else (0, examW [la, lb])
end Go.Proofs.YtokkcmadgcdpiaaDoor.Wd
namespace Go.Proofs.YtokkcmadgcdpiaaDoor.Wd
open Go.RowKit

theorem len_mul (x y : Nat) : (dg (x * y)).length ≤ (dg x).length + (dg y).length := by
  refine dg_le.2 ?_
  rw [Nat.pow_add]
  have h1 := lt_dg x
  have h2 := lt_dg y
  rcases Nat.eq_zero_or_pos y with h | h
  · rw [h, Nat.mul_zero]; exact Nat.mul_pos (pow_pos' _) (pow_pos' _)
  · exact Nat.lt_of_lt_of_le (Nat.mul_lt_mul_of_pos_right h1 h) (Nat.mul_le_mul_left _ (Nat.le_of_lt h2))
def cmpW (la lb : List Nat) : Int × Int := if examW [la, lb] = 0 then (cmpI (val la) (val lb), 0) else (0, examW [la, lb])
set_option maxRecDepth 100000 in
set_option maxHeartbeats 2000000 in
theorem Mul_any (va vb : Value) (la lb : List Nat) (w : World) (ha : Arg w va la) (hb : Arg w vb lb) : Calls Tryd.prog 72 #[va, vb] w (Res w (mulW la lb)) := by
  have hex := exam2 va vb la lb w ha hb
  have hbl : Below w.heap.size w (w.alloc (.cells #[va, vb] 53)) := (Below.refl _ w).alloc (Nat.le_refl _) _
  have ha1 := ha.up hbl
  have hb1 := hb.up hbl
  obtain ⟨A, capa, rfl, -⟩ := ha.1.form
  obtain ⟨B, capb, rfl, -⟩ := hb.1.form
  unfold mulW
  by_cases h : examW [la, lb] = 0
  · obtain ⟨n1, n2, n3⟩ := ha1.num h (by simp)
    obtain ⟨m1, m2, m3⟩ := hb1.num h (by simp)
    rw [if_pos h]
    rw [h] at hex
    have HEX := Lib.hid hex
    have hs := product_any _ _ _ _ _ n1 m1 (by omega) (by omega)
    rw [val_dg, val_dg] at hs
    have hl := len_mul (val la) (val lb)
    have hwi : ∀ W v, Num W W.heap.size v (val la * val lb) → _ := fun W v hv => within_any v (val la * val lb) W hv (by omega)
    unfold fitW Res
    generalize (if 512 < (dg (val la * val lb)).length then (3 : Int) else 0) = ec at *
    generalize (if 512 < (dg (val la * val lb)).length then 0 else val la * val lb) = rn at *
    have HS := Lib.hid hs
    have HWI := Lib.hid hwi
    clear hs hwi hl
    clear hex ha hb ha1 hb1 n1 n2 n3 m1 m2 m3 h
    generalize la.length = l1 at *
    generalize lb.length = l2 at *
    go_enter Tryd.func72, Tryd.ntmps72
    go_wp2_with fail
    refine HEX.out.mono ?_
    rintro e w1 ⟨rfl, rfl⟩
    go_wp2_with fail
    refine HS.out.mono ?_
    rintro e w2 ⟨v2, he, hn2, hb2⟩
    subst he
    go_wp2_with fail
    refine (HWI.out w2 v2 hn2).mono ?_
    rintro e w3 ⟨v3, he, hn3, rfl⟩
    subst he
    go_wp2_with fail
    go_ret2
    exact ⟨v3, rfl, hn3, hbl.trans (hb2.mono hbl.size)⟩
  · rw [if_neg h]
    generalize examW [la, lb] = ec at *
    have q1 : (ec == 0) = false := by simp [h]
    have q2 : (ec != 0) = true := by simp [h]
    have HEX := Lib.hid hex
    clear hex ha hb ha1 hb1 h
    generalize la.length = l1 at *
    generalize lb.length = l2 at *
    go_enter Tryd.func72, Tryd.ntmps72
    go_wp2_with fail
    refine HEX.out.mono ?_
    rintro e w1 ⟨rfl, rfl⟩
    go_wp2_with fail
    go_ret2
    exact ⟨.slice none 0 0, rfl, Num.zero _ _, hbl⟩

set_option maxRecDepth 100000 in
set_option maxHeartbeats 2000000 in
theorem Cmp_any (va vb : Value) (la lb : List Nat) (w : World) (ha : Arg w va la) (hb : Arg w vb lb) : Calls Tryd.prog 40 #[va, vb] w (fun e w' => e = .returned (.tuple #[.int .i64 (cmpW la lb).1, .int .i64 (cmpW la lb).2]) ∧ Below w.heap.size w w') := by
  have hex := exam2 va vb la lb w ha hb
  have hbl : Below w.heap.size w (w.alloc (.cells #[va, vb] 53)) := (Below.refl _ w).alloc (Nat.le_refl _) _
  have ha1 := ha.up hbl
  have hb1 := hb.up hbl
  obtain ⟨A, capa, rfl, -⟩ := ha.1.form
  obtain ⟨B, capb, rfl, -⟩ := hb.1.form
  unfold cmpW
  by_cases h : examW [la, lb] = 0
  · obtain ⟨n1, n2, n3⟩ := ha1.num h (by simp)
    obtain ⟨m1, m2, m3⟩ := hb1.num h (by simp)
    rw [if_pos h]
    rw [h] at hex
    have HEX := Lib.hid hex
    have hs := compare_any _ _ _ _ _ n1 m1 (by omega)
    generalize cmpI (val la) (val lb) = cc at *
    have HS := Lib.hid hs
    clear hs
    clear hex ha hb ha1 hb1 n1 n2 n3 m1 m2 m3 h
    generalize la.length = l1 at *
    generalize lb.length = l2 at *
    go_enter Tryd.func40, Tryd.ntmps40
    go_wp2_with fail
    refine HEX.out.mono ?_
    rintro e w1 ⟨rfl, rfl⟩
    go_wp2_with fail
    refine HS.out.mono ?_
    rintro e w2 ⟨he, hd⟩
    subst he
    go_wp2_with fail
    go_ret2
    exact ⟨rfl, hbl.trans (hd.below.mono hbl.size)⟩
  · rw [if_neg h]
    generalize examW [la, lb] = ec at *
    have q1 : (ec == 0) = false := by simp [h]
    have q2 : (ec != 0) = true := by simp [h]
    have HEX := Lib.hid hex
    clear hex ha hb ha1 hb1 h
    generalize la.length = l1 at *
    generalize lb.length = l2 at *
    go_enter Tryd.func40, Tryd.ntmps40
    go_wp2_with fail
    refine HEX.out.mono ?_
    rintro e w1 ⟨rfl, rfl⟩
    go_wp2_with fail
    go_ret2
    exact ⟨rfl, hbl⟩

end Go.Proofs.YtokkcmadgcdpiaaDoor.Wd
namespace Go.Proofs.YtokkcmadgcdpiaaDoor.Wd
open Go.RowKit
def powW (l : List Nat) (k : Int) : Nat × Int := if examW [l] = 0 then (if k < 0 ∨ 20000 < k then (0, 2) else fitW (val l ^ k.toNat)) else (0, examW [l])
set_option maxRecDepth 100000 in
set_option maxHeartbeats 2000000 in
theorem Pow_any (va : Value) (la : List Nat) (k : Int) (w : World) (ha : Arg w va la) : Calls Tryd.prog 71 #[va, .int .i64 k] w (Res w (powW la k)) := by
  have hex := exam1 va la w ha
  have hbl : Below w.heap.size w (w.alloc (.cells #[va] 53)) := (Below.refl _ w).alloc (Nat.le_refl _) _
  have ha1 := ha.up hbl
  obtain ⟨A, capa, rfl, -⟩ := ha.1.form
  unfold powW
  by_cases h : examW [la] = 0
  · obtain ⟨n1, n2, n3⟩ := ha1.num h (by simp)
    rw [if_pos h]
    rw [h] at hex
    have HEX := Lib.hid hex
    have hpw : ∀ n : Nat, k = (n : Int) → n ≤ 20000 → Calls Tryd.prog 88 #[.slice A la.length capa, .int .i64 k] (w.alloc (.cells #[.slice A la.length capa] 53)) (resV (w.alloc (.cells #[.slice A la.length capa] 53)) (val la ^ n)) := fun n hk hn => by
      subst hk; exact powerWithin_any _ _ n _ n1 n2 hn
    have HPW := Lib.hid hpw
    clear hpw
    by_cases hk : k < 0 ∨ 20000 < k
    · rw [if_pos hk]
      rcases hk with hk | hk
      all_goals
        have hk2 : ¬ (0 ≤ k ∧ k ≤ 20000) := by omega
        clear hex ha ha1 n1 n2 n3 h
        generalize la.length = l1 at *
        go_enter Tryd.func71, Tryd.ntmps71
        go_wp2_with fail
        refine HEX.out.mono ?_
        rintro e w1 ⟨rfl, rfl⟩
        go_wp2_with fail
        go_ret2
        exact ⟨.slice none 0 0, rfl, Num.zero _ _, hbl⟩
    · rw [if_neg hk]
      obtain ⟨n, hn⟩ : ∃ n : Nat, k = (n : Int) := ⟨k.toNat, by omega⟩
      have hpw := HPW.out n hn (by omega)
      rw [show k.toNat = n by omega]
      unfold resV at hpw
      unfold fitW Res
      generalize (if 512 < (dg (val la ^ n)).length then (3 : Int) else 0) = ec at *
      generalize (if 512 < (dg (val la ^ n)).length then 0 else val la ^ n) = rn at *
      have HP := Lib.hid hpw
      have hk3 : 0 ≤ k := by omega
      have hk4 : k ≤ 20000 := by omega
      have hk5 : ¬ k < 0 := by omega
      have hk6 : ¬ 20000 < k := by omega
      clear hpw hn hk
      clear hex ha ha1 n1 n2 n3 h
      generalize la.length = l1 at *
      go_enter Tryd.func71, Tryd.ntmps71
      go_wp2_with fail
      refine HEX.out.mono ?_
      rintro e w1 ⟨rfl, rfl⟩
      go_wp2_with fail
      refine HP.out.mono ?_
      rintro e w2 ⟨v2, he, hn2, hb2⟩
      subst he
      go_wp2_with fail
      go_ret2
      exact ⟨v2, rfl, hn2, hbl.trans (hb2.mono hbl.size)⟩
  · rw [if_neg h]
    generalize examW [la] = ec at *
    have q1 : (ec == 0) = false := by simp [h]
    have q2 : (ec != 0) = true := by simp [h]
    have HEX := Lib.hid hex
    clear hex ha ha1 h
    generalize la.length = l1 at *
    go_enter Tryd.func71, Tryd.ntmps71
    go_wp2_with fail
    refine HEX.out.mono ?_
    rintro e w1 ⟨rfl, rfl⟩
    go_wp2_with fail
    go_ret2
    exact ⟨.slice none 0 0, rfl, Num.zero _ _, hbl⟩

end Go.Proofs.YtokkcmadgcdpiaaDoor.Wd
namespace Go.Proofs.YtokkcmadgcdpiaaDoor.Wd
open Go.RowKit
theorem num_arg {W : World} {v : Value} {n : Nat} (h : Num W W.heap.size v n) (l : List Nat) (hl : dg n = l) (hk : l.length ≤ 1000) : Arg W v l := by
  subst hl
  exact ⟨h, by omega⟩
theorem exam_nil {ls : List (List Nat)} (h : ∀ l ∈ ls, l.length ≤ 512 ∧ l.getLast? ≠ some 0) : examW ls = 0 := by
  rw [examW_short (fun k l hk hl => by have := (h l (List.mem_of_getElem? hl)).1; omega), if_neg]
  intro h2
  rw [List.any_eq_true] at h2
  obtain ⟨l, hl, hd⟩ := h2
  exact (h l hl).2 (of_decide_eq_true hd)
end Go.Proofs.YtokkcmadgcdpiaaDoor.Wd
namespace Go.Proofs.YtokkcmadgcdpiaaDoor.Wd
open Go.RowKit

theorem small_zero : (dg 0).length ≤ 1000 := by rw [dg_zero]; simp
theorem small_fit (n : Nat) : (dg (fitW n).1).length ≤ 1000 := by
  unfold fitW
  by_cases h : 512 < (dg n).length
  · rw [if_pos h]; exact small_zero
  · rw [if_neg h]; show (dg n).length ≤ 1000; omega
theorem small_mul (la lb : List Nat) : (dg (mulW la lb).1).length ≤ 1000 := by
  unfold mulW
  by_cases h : examW [la, lb] = 0
  · rw [if_pos h]; exact small_fit _
  · rw [if_neg h]; exact small_zero
theorem small_pow (l : List Nat) (k : Int) : (dg (powW l k).1).length ≤ 1000 := by
  unfold powW
  by_cases h : examW [l] = 0
  · rw [if_pos h]
    by_cases h2 : k < 0 ∨ 20000 < k
    · rw [if_pos h2]; exact small_zero
    · rw [if_neg h2]; exact small_fit _
  · rw [if_neg h]; exact small_zero
theorem cMul (va vb : Value) (la lb : List Nat) (W : World) (ha : Arg W va la) (hb : Arg W vb lb) :
    Calls Tryd.prog 72 #[va, vb] W fun e w' => ∃ v, e = .returned (.tuple #[v, .int .i64 (mulW la lb).2]) ∧ Arg w' v (dg (mulW la lb).1) ∧ Below W.heap.size W w' := by
  have hs := small_mul la lb
  have h := Mul_any va vb la lb W ha hb
  generalize mulW la lb = r at h hs ⊢
  refine h.mono ?_
  rintro e w' ⟨v, he, hn, hb⟩
  exact ⟨v, he, num_arg hn _ rfl hs, hb⟩
theorem cPow (va : Value) (la : List Nat) (k : Int) (W : World) (ha : Arg W va la) :
    Calls Tryd.prog 71 #[va, .int .i64 k] W fun e w' => ∃ v, e = .returned (.tuple #[v, .int .i64 (powW la k).2]) ∧ Arg w' v (dg (powW la k).1) ∧ Below W.heap.size W w' := by
  have hs := small_pow la k
  have h := Pow_any va la k W ha
  generalize powW la k = r at h hs ⊢
  refine h.mono ?_
  rintro e w' ⟨v, he, hn, hb⟩
  exact ⟨v, he, num_arg hn _ rfl hs, hb⟩
end Go.Proofs.YtokkcmadgcdpiaaDoor.Wd
namespace Go.Proofs.YtokkcmadgcdpiaaDoor.Wd
open Go.RowKit

theorem exam_dg2 {m n : Nat} (h1 : (dg m).length ≤ 512) (h2 : (dg n).length ≤ 512) : examW [dg m, dg n] = 0 := exam_nil (by
  intro l hl
  simp only [List.mem_cons, List.not_mem_nil, or_false] at hl
  rcases hl with rfl | rfl
  · exact ⟨h1, (right_dg m).2⟩
  · exact ⟨h2, (right_dg n).2⟩)
theorem exam_dg1 {m : Nat} (h1 : (dg m).length ≤ 512) : examW [dg m] = 0 := exam_nil (by
  intro l hl
  simp only [List.mem_cons, List.not_mem_nil, or_false] at hl
  subst hl
  exact ⟨h1, (right_dg m).2⟩)
theorem fit_ok {n : Nat} (h : (dg n).length ≤ 512) : fitW n = (n, 0) := by unfold fitW; rw [if_neg (by omega), if_neg (by omega)]
theorem nMul {va vb : Value} {m n : Nat} {W : World} (ha : Arg W va (dg m)) (hb : Arg W vb (dg n)) (h1 : (dg m).length ≤ 512) (h2 : (dg n).length ≤ 512) (h3 : (dg (m * n)).length ≤ 512) :
    Calls Tryd.prog 72 #[va, vb] W fun e w' => ∃ v, e = .returned (.tuple #[v, .int .i64 0]) ∧ Arg w' v (dg (m * n)) ∧ Below W.heap.size W w' := by
  have h := cMul va vb (dg m) (dg n) W ha hb
  have e : mulW (dg m) (dg n) = (m * n, 0) := by unfold mulW; rw [if_pos (exam_dg2 h1 h2), val_dg, val_dg, fit_ok h3]
  rw [e] at h
  exact h
theorem nCmp {va vb : Value} {m n : Nat} {W : World} (ha : Arg W va (dg m)) (hb : Arg W vb (dg n)) (h1 : (dg m).length ≤ 512) (h2 : (dg n).length ≤ 512) :
    Calls Tryd.prog 40 #[va, vb] W fun e w' => e = .returned (.tuple #[.int .i64 (cmpI m n), .int .i64 0]) ∧ Below W.heap.size W w' := by
  have h := Cmp_any va vb (dg m) (dg n) W ha hb
  have e : cmpW (dg m) (dg n) = (cmpI m n, 0) := by unfold cmpW; rw [if_pos (exam_dg2 h1 h2), val_dg, val_dg]
  rw [e] at h
  exact h
theorem nPow {va : Value} {m k : Nat} {W : World} (ha : Arg W va (dg m)) (h1 : (dg m).length ≤ 512) (hk : k ≤ 20000) (h3 : (dg (m ^ k)).length ≤ 512) :
    Calls Tryd.prog 71 #[va, .int .i64 (k : Int)] W fun e w' => ∃ v, e = .returned (.tuple #[v, .int .i64 0]) ∧ Arg w' v (dg (m ^ k)) ∧ Below W.heap.size W w' := by
  have h := cPow va (dg m) (k : Int) W ha
  have e : powW (dg m) (k : Int) = (m ^ k, 0) := by unfold powW; rw [if_pos (exam_dg1 h1), val_dg, if_neg (by omega), Int.toNat_natCast, fit_ok h3]
  rw [e] at h
  exact h
theorem nOne (W : World) : Calls Tryd.prog 42 #[.int .u64 1] W fun e w' => ∃ v, e = .returned v ∧ Arg w' v (dg 1) ∧ Below W.heap.size W w' :=
  (of_any 1 (by omega) W).mono fun _ _ ⟨v, he, h1, hb⟩ => ⟨v, he, num_arg h1 _ rfl (by rw [dg_one]; simp), hb⟩
end Go.Proofs.YtokkcmadgcdpiaaDoor.Wd
