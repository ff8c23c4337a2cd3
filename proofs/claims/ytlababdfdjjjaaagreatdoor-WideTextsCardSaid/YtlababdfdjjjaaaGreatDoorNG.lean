import Derived.Test.YtlababdfdjjjaaaGreatDoorNF
namespace Go.Proofs.YtlababdfdjjjaaaGreatDoor
open Go.RowKit

theorem dg_one : dg 1 = [1] := by
  rw [dg_pos (by decide), Nat.mod_eq_of_lt (show 1 < LB by rw [LB_eq]; omega), Nat.div_eq_of_lt (show 1 < LB by rw [LB_eq]; omega), dg_zero]
theorem one_new (w : World) : Num (w.alloc (.cells #[.int .u32 1] 64)) (w.heap.size + 1) (.slice (some ⟨w.heap.size, 0, none⟩) 1 1) 1 := by
  have hrow : Row (w.alloc (.cells #[.int .u32 1] 64)) w.heap.size [1] := heap_alloc_new w _
  have h := hrow.whole (by intro x hx; simp at hx; rw [hx, LB_eq]; omega) 1 (by simp)
  rw [World.size_alloc] at h
  unfold Num
  rw [dg_one]; exact h
theorem pow_half (a k : Nat) : a ^ k = a ^ (k / 2) * a ^ (k / 2) * a ^ (k % 2) := by
  rw [← Nat.pow_add, ← Nat.pow_add]; congr 1; omega

set_option maxRecDepth 100000 in
set_option maxHeartbeats 2000000 in
theorem power_any (va : Value) (a : Nat) : ∀ (k : Nat) (w : World), Num w w.heap.size va a → k ≤ 1000000 → (∀ j, j ≤ k → (dg (a ^ j)).length ≤ 1000000) → (dg a).length ≤ 1000000 →
    Calls Tryz.prog 135 #[va, .int .i64 (k : Int)] w (NumPost w (a ^ k)) := by
  intro k
  induction k using Nat.strongRecOn with
  | ind k ih =>
    intro w ha hk hlen hla
    by_cases hk0 : k = 0
    · subst hk0
      obtain ⟨A, capa, rfl, -⟩ := ha.form
      have hone := one_new w
      have HO := Lib.hid hone
      clear ih ha hlen hla hone
      generalize (dg a).length = la at *
      go_enter Tryz.func135, Tryz.ntmps135
      go_wp2_with fail
      go_ret
      refine ⟨_, rfl, ?_, (Below.refl _ w).alloc (Nat.le_refl _) _⟩
      rw [Nat.pow_zero]
      have := HO.out
      rw [World.size_alloc]
      exact this
    · obtain ⟨h, hh⟩ : ∃ h, h = k / 2 := ⟨_, rfl⟩
      obtain ⟨m, hm⟩ : ∃ m, m = k % 2 := ⟨_, rfl⟩
      have hcall := ih h (by omega) w ha (by omega) (fun j hj => hlen j (by omega)) hla
      have hp : a ^ k = a ^ h * a ^ h * a ^ m := by rw [hh, hm]; exact pow_half a k
      have hp2 : a ^ h * a ^ h = a ^ (h + h) := (Nat.pow_add ..).symm
      have hl1 := hlen h (by omega)
      have hl2 := hlen (h + h) (by omega)
      have hpr : ∀ W v, Num W W.heap.size v (a ^ h) → Calls Tryz.prog 85 #[v, v] W (NumPost W (a ^ (h + h))) := by
        intro W v hv
        have := product_any v v _ _ W hv hv (by omega) (by omega)
        rw [val_dg, hp2] at this
        exact this
      have hpa : ∀ W v, Num W W.heap.size v (a ^ (h + h)) → Below w.heap.size w W → Calls Tryz.prog 85 #[v, va] W (NumPost W (a ^ (h + h) * a)) := by
        intro W v hv hb
        have := product_any v va _ _ W hv (Lim.up ha hb) (by omega) (by omega)
        rw [val_dg, val_dg] at this
        exact this
      have e1 : (k : Int) / 2 = (h : Int) := by omega
      have e1t : (k : Int).tdiv 2 = (h : Int) := by rw [Int.tdiv_eq_ediv_of_nonneg (Int.natCast_nonneg _)]; exact e1
      have e2 : (k : Int) % 2 = (m : Int) := by omega
      have e2t : (k : Int).tmod 2 = (m : Int) := by rw [Int.tmod_eq_emod_of_nonneg (Int.natCast_nonneg _)]; exact e2
      have q0 : ((k : Int) == 0) = false := beq_false_of_ne (by omega)
      have hk1 : (0 : Int) ≤ (k : Int) := Int.natCast_nonneg _
      rw [hp2] at hp
      rw [hp]
      obtain ⟨A, capa, rfl, -⟩ := ha.form
      have HC := Lib.hid hcall
      have HPR := Lib.hid hpr
      have HPA := Lib.hid hpa
      have E1 := Lib.hid e1
      have hm2 : m = 0 ∨ m = 1 := by omega
      clear ih ha hlen hla hcall hpr hpa hp hp2 hl1 hl2 hh hm
      generalize (dg a).length = la at *
      rcases hm2 with rfl | rfl
      · have q1 : (((0 : Nat) : Int) == 1) = false := by decide
        rw [Nat.pow_zero, Nat.mul_one]
        go_enter Tryz.func135, Tryz.ntmps135
        go_wp2_with fail
        refine HC.out.mono ?_
        rintro e w1 ⟨v1, he, hn1, hb1⟩
        subst he
        go_wp2_with fail
        refine (HPR.out w1 v1 hn1).mono ?_
        rintro e w2 ⟨v2, he, hn2, hb2⟩
        subst he
        go_wp2_with fail
        go_ret
        exact ⟨v2, rfl, hn2, hb1.trans (hb2.mono hb1.size)⟩
      · have q1 : (((1 : Nat) : Int) == 1) = true := by decide
        rw [Nat.pow_one]
        go_enter Tryz.func135, Tryz.ntmps135
        go_wp2_with fail
        refine HC.out.mono ?_
        rintro e w1 ⟨v1, he, hn1, hb1⟩
        subst he
        go_wp2_with fail
        refine (HPR.out w1 v1 hn1).mono ?_
        rintro e w2 ⟨v2, he, hn2, hb2⟩
        subst he
        have hb12 := hb1.trans (hb2.mono hb1.size)
        go_wp2_with fail
        refine (HPA.out w2 v2 hn2 hb12).mono ?_
        rintro e w3 ⟨v3, he, hn3, hb3⟩
        subst he
        go_wp2_with fail
        go_ret
        exact ⟨v3, rfl, hn3, hb12.trans (hb3.mono hb12.size)⟩

/-- A result that may be too long. -/
def resV (w : World) (n : Nat) (e : Ending) (w' : World) : Prop :=
  ∃ v, e = .returned (.tuple #[v, .int .i64 (if 512 < (dg n).length then 3 else 0)]) ∧ Num w' w'.heap.size v (if 512 < (dg n).length then 0 else n) ∧ Below w.heap.size w w'

set_option maxRecDepth 100000 in
theorem within_any (va : Value) (n : Nat) (w : World) (ha : Num w w.heap.size va n) (hla : (dg n).length ≤ 100000000) :
    Calls Tryz.prog 92 #[va] w fun e w' => ∃ v, e = .returned (.tuple #[v, .int .i64 (if 512 < (dg n).length then 3 else 0)]) ∧ Num w w.heap.size v (if 512 < (dg n).length then 0 else n) ∧ w = w' := by
  obtain ⟨A, capa, rfl, -⟩ := ha.form
  by_cases h : 512 < (dg n).length
  · rw [if_pos h, if_pos h]
    clear ha
    generalize (dg n).length = la at *
    go_enter Tryz.func92, Tryz.ntmps92
    go_wp2_with fail
    go_ret2
    exact ⟨.slice none 0 0, rfl, Num.zero _ _, rfl⟩
  · rw [if_neg h, if_neg h]
    have HA := Lib.hid ha
    clear ha
    generalize (dg n).length = la at *
    go_enter Tryz.func92, Tryz.ntmps92
    go_wp2_with fail
    go_ret2
    exact ⟨_, rfl, HA.out, rfl⟩
end Go.Proofs.YtlababdfdjjjaaaGreatDoor
namespace Go.Proofs.YtlababdfdjjjaaaGreatDoor
open Go.RowKit

theorem len_two {n N : Nat} (h : n < 2 ^ (32 * N)) : (dg n).length ≤ N := dg_le.2 (by rw [LBpow]; exact h)
theorem pow_lens {a k j B : Nat} (hB : (bitsOf a - 1) * k < B) (hj : j ≤ k) : (dg (a ^ j)).length ≤ B := by
  refine len_two ?_
  rcases Nat.lt_or_ge a 2 with h | h
  · have h1 : a ^ j ≤ 1 := by
      rcases Nat.eq_zero_or_pos j with h2 | h2
      · rw [h2]; exact Nat.le_refl _
      · rcases (show a = 0 ∨ a = 1 by omega) with rfl | rfl
        · rw [Nat.zero_pow h2]; omega
        · rw [Nat.one_pow]; omega
    have h2 : 2 ^ 1 ≤ 2 ^ (32 * B) := Nat.pow_le_pow_right (by omega) (by omega)
    omega
  · have h0 : a ≠ 0 := by omega
    have h1 : 2 ≤ bitsOf a := by
      rcases Nat.lt_or_ge (bitsOf a) 2 with h2 | h2
      · have := bits_lt a
        have h3 : 2 ^ bitsOf a ≤ 2 ^ 1 := Nat.pow_le_pow_right (by omega) (by omega)
        omega
      · exact h2
    obtain ⟨c, hc⟩ : ∃ c, bitsOf a = c + 1 := ⟨bitsOf a - 1, by omega⟩
    rw [hc, Nat.add_sub_cancel] at hB
    have h2 : a ^ j ≤ (2 ^ (c + 1)) ^ j := Nat.pow_le_pow_left (by have := bits_lt a; rw [hc] at this; omega) j
    rw [← Nat.pow_mul] at h2
    have h3 : c * j ≤ c * k := Nat.mul_le_mul_left _ hj
    have h4 : j ≤ c * j := Nat.le_mul_of_pos_left _ (by omega)
    have h5 : (c + 1) * j = c * j + j := by rw [Nat.add_mul, Nat.one_mul]
    have h6 : 2 ^ ((c + 1) * j) < 2 ^ (32 * B) := Nat.pow_lt_pow_right (by omega) (by omega)
    omega
theorem pow_long {a k N : Nat} (ha : a ≠ 0) (h : 32 * N ≤ (bitsOf a - 1) * k) : N < (dg (a ^ k)).length := by
  refine dg_gt.2 ?_
  rw [LBpow]
  have h1 : (2 ^ (bitsOf a - 1)) ^ k ≤ a ^ k := Nat.pow_le_pow_left (bits_le ha) k
  rw [← Nat.pow_mul] at h1
  exact Nat.le_trans (Nat.pow_le_pow_right (by omega) h) h1

set_option maxRecDepth 100000 in
set_option maxHeartbeats 2000000 in
theorem powerWithin_any (va : Value) (a k : Nat) (w : World) (ha : Num w w.heap.size va a) (hla : (dg a).length ≤ 512) (hk : k ≤ 20000) :
    Calls Tryz.prog 102 #[va, .int .i64 (k : Int)] w (resV w (a ^ k)) := by
  have hbits : bitsOf a ≤ 32 * (dg a).length := bits_le_iff.2 (by rw [← LBpow]; exact lt_dg a)
  have hln := length_any va a w _ ha (by omega)
  obtain ⟨L, hL⟩ : ∃ L, L = bitsOf a := ⟨_, rfl⟩
  rw [← hL] at hln hbits
  obtain ⟨X, hX⟩ : ∃ X : Int, X = ((L : Int) - 1) * (k : Int) := ⟨_, rfl⟩
  have hXb : X ≤ 16384 * 20000 ∧ -20000 ≤ X := by
    rcases Nat.eq_zero_or_pos L with h | h
    · subst h; rw [hX]; simp; omega
    · obtain ⟨c, rfl⟩ : ∃ c, L = c + 1 := ⟨L - 1, by omega⟩
      have h1 : c * k ≤ 16384 * 20000 := Nat.mul_le_mul (by omega) hk
      have h2 : X = ((c * k : Nat) : Int) := by rw [hX, Int.natCast_mul]; congr 1; omega
      omega
  have hw : IntKind.i64.wrap (((L : Int) - 1) * (k : Int)) = X := by rw [← hX]; exact IntWalk.i64_in _ (by omega)
  have hXn : 0 < L → X = (((L - 1) * k : Nat) : Int) := by
    intro h
    rw [hX, Int.natCast_mul]; congr 1; omega
  have hX0 : L = 0 → X ≤ 0 := by intro h; rw [hX, h]; simp
  have hkk : (0 : Int) ≤ (k : Int) := Int.natCast_nonneg _
  obtain ⟨A, capa, rfl, -⟩ := ha.form
  by_cases hge : (16384 : Int) ≤ X
  · have hL0 : 0 < L := by
      rcases Nat.eq_zero_or_pos L with h | h
      · have := hX0 h; omega
      · exact h
    have ha0 : a ≠ 0 := by intro h; rw [h] at hL; rw [hL] at hL0; exact absurd hL0 (by decide)
    have hlong : 512 < (dg (a ^ k)).length := by
      refine pow_long ha0 ?_
      rw [← hL]
      have := hXn hL0
      omega
    unfold resV
    rw [if_pos hlong, if_pos hlong]
    have HLN := Lib.hid hln
    have hL1 : L ≤ 1000000 := by omega
    clear hln hlong ha hX hL hXn hX0 hla hbits ha0
    generalize (dg a).length = la at *
    go_enter Tryz.func102, Tryz.ntmps102
    go_wp2_with fail
    refine HLN.out.mono ?_
    rintro e w1 ⟨rfl, rfl⟩
    go_wp2_with fail
    go_ret2
    exact ⟨.slice none 0 0, rfl, Num.zero _ _, Below.refl _ _⟩
  · obtain ⟨B, hB⟩ : ∃ B, B = 16385 := ⟨_, rfl⟩
    have hlens : ∀ j, j ≤ k → (dg (a ^ j)).length ≤ 1000000 := by
      intro j hj
      have h1 : (bitsOf a - 1) * k < B := by
        rw [← hL]
        rcases Nat.eq_zero_or_pos L with h | h
        · rw [h, Nat.zero_sub, Nat.zero_mul]; omega
        · have := hXn h; omega
      have := pow_lens h1 hj
      omega
    have hpw := power_any _ a k w ha (by omega) hlens (by omega)
    have hwi : ∀ W v, Num W W.heap.size v (a ^ k) → _ := fun W v hv => within_any v (a ^ k) W hv (by have := hlens k (Nat.le_refl _); omega)
    unfold resV
    generalize (if 512 < (dg (a ^ k)).length then (3 : Int) else 0) = ec at *
    generalize (if 512 < (dg (a ^ k)).length then 0 else a ^ k) = rn at *
    have HLN := Lib.hid hln
    have HPW := Lib.hid hpw
    have HWI := Lib.hid hwi
    have hL1 : L ≤ 1000000 := by omega
    clear hln hpw hwi hlens ha hX hL hXn hX0 hla hbits hB
    generalize (dg a).length = la at *
    go_enter Tryz.func102, Tryz.ntmps102
    go_wp2_with fail
    refine HLN.out.mono ?_
    rintro e w1 ⟨rfl, rfl⟩
    go_wp2_with fail
    refine HPW.out.mono ?_
    rintro e w2 ⟨v2, he, hn2, hb2⟩
    subst he
    go_wp2_with fail
    refine (HWI.out w2 v2 hn2).mono ?_
    rintro e w3 ⟨v3, he, hn3, rfl⟩
    subst he
    go_wp2_with fail
    go_ret2
    exact ⟨v3, rfl, hn3, hb2⟩
end Go.Proofs.YtlababdfdjjjaaaGreatDoor
namespace Go.Proofs.YtlababdfdjjjaaaGreatDoor
open Go.RowKit

theorem root_exists (k : Nat) (hk : 0 < k) : ∀ a, ∃ r, IsRoot a k r
  | 0 => ⟨0, by rw [Nat.zero_pow hk]; exact Nat.le_refl _, by rw [Nat.one_pow]; omega⟩
  | a + 1 => by
    obtain ⟨r, h1, h2⟩ := root_exists k hk a
    rcases Nat.lt_or_ge (a + 1) ((r + 1) ^ k) with h | h
    · exact ⟨r, by omega, h⟩
    · exact ⟨r + 1, h, by have := pow_lt_pow_left' hk (show r + 1 < r + 1 + 1 by omega); omega⟩
theorem root_pos {a k r : Nat} (h : IsRoot a k r) (ha : 0 < a) : 0 < r := by
  rcases Nat.eq_zero_or_pos r with h0 | h0
  · subst h0; have := h.2; rw [Nat.zero_add, Nat.one_pow] at this; omega
  · exact h0
theorem root_start {a k r e : Nat} (hk : 0 < k) (h : IsRoot a k r) (he : bitsOf a ≤ e * k) : r ≤ 2 ^ e := by
  rcases Nat.lt_or_ge (2 ^ e) r with h1 | h1
  · have h2 := pow_lt_pow_left' hk h1
    rw [← Nat.pow_mul] at h2
    have h3 := bits_lt a
    have h4 : 2 ^ bitsOf a ≤ 2 ^ (e * k) := Nat.pow_le_pow_right (by omega) he
    have := h.1
    omega
  · exact h1
theorem len_pow_two {n N : Nat} (h : n ≤ 2 ^ N) : (dg n).length ≤ N + 1 := by
  refine len_two (Nat.lt_of_le_of_lt h ?_)
  exact Nat.pow_lt_pow_right (by omega) (by omega)

def RtRel (w : World) (r M : Nat) (vx : Value) (wr : World) : Prop := ∃ x, Num wr wr.heap.size vx x ∧ r ≤ x ∧ 0 < x ∧ x ≤ M ∧ Below w.heap.size w wr

set_option maxRecDepth 100000 in
set_option maxHeartbeats 4000000 in
theorem root_any (va : Value) (a k r : Nat) (w : World) (ha : Num w w.heap.size va a) (hla : (dg a).length ≤ 512) (hk : 1 ≤ k) (hk2 : k ≤ 64) (hr : IsRoot a k r) :
    Calls Tryz.prog 104 #[va, .int .i64 (k : Int)] w (NumPost w r) := by
  have hz := isZero_any va a w _ ha
  by_cases h0 : a = 0
  · subst h0
    have hr0 : r = 0 := by
      rcases Nat.eq_zero_or_pos r with h | h
      · exact h
      · have h1 := Nat.pow_pos (n := k) h
        have := hr.1
        omega
    subst hr0
    obtain ⟨A, capa, rfl, -⟩ := ha.form
    have HZ := Lib.hid hz
    clear ha hz hla hr
    generalize (dg 0).length = la at *
    go_enter Tryz.func104, Tryz.ntmps104
    go_wp2_with fail
    refine HZ.out.mono ?_
    rintro e w1 ⟨rfl, rfl⟩
    go_wp2_with fail
    go_ret
    exact ⟨.slice none 0 0, rfl, Num.zero _ _, Below.refl _ _⟩
  · have hbits : bitsOf a ≤ 32 * (dg a).length := bits_le_iff.2 (by rw [← LBpow]; exact lt_dg a)
    obtain ⟨k', hkk⟩ : ∃ k', k = k' + 1 := ⟨k - 1, by omega⟩
    obtain ⟨L, hL⟩ : ∃ L, L = bitsOf a := ⟨_, rfl⟩
    have hL1 : L ≤ 16384 := by omega
    obtain ⟨ee, hee⟩ : ∃ ee, ee = (L + k') / k := ⟨_, rfl⟩
    have hek : ee * k ≤ L + k' := by rw [hee]; exact Nat.div_mul_le_self _ _
    have hek2 : L ≤ ee * k := by
      have h1 := Nat.lt_mul_div_succ (L + k') (show 0 < k by omega)
      rw [← hee, Nat.mul_add, Nat.mul_one, Nat.mul_comm] at h1
      omega
    have heL : ee ≤ L + k' := Nat.le_trans (Nat.le_mul_of_pos_right _ (by omega)) hek
    have hek' : ee * k' ≤ L + k' := Nat.le_trans (Nat.mul_le_mul_left _ (by omega)) hek
    have hr1 := root_pos hr (Nat.pos_of_ne_zero h0)
    have hstart : r ≤ 2 ^ ee := root_start (by omega) hr (by rw [← hL]; exact hek2)
    have hln : ∀ W, Below w.heap.size w W → Calls Tryz.prog 71 #[va] W fun e w' => e = .returned (.int .i64 (bitsOf a)) ∧ W = w' := fun W hW => length_any va a W _ (Lim.up ha hW) (by omega)
    rw [← hL] at hln
    have hsu := shiftUp_any (.slice (some ⟨w.heap.size, 0, none⟩) 1 1) 1 ee (w.alloc (.cells #[.int .u32 1] 64)) (by rw [World.size_alloc]; exact one_new w) (by omega) (by rw [dg_one]; simp)
    rw [Nat.one_mul] at hsu
    -- powers of what is not above the start
    have hpl : ∀ x j, x ≤ 2 ^ ee → j ≤ k' → (dg (x ^ j)).length ≤ 17000 := by
      intro x j hx hj
      have h1 : x ^ j ≤ (2 ^ ee) ^ j := Nat.pow_le_pow_left hx j
      rw [← Nat.pow_mul] at h1
      have h2 : ee * j ≤ ee * k' := Nat.mul_le_mul_left _ hj
      have := len_pow_two (Nat.le_trans h1 (Nat.pow_le_pow_right (by omega) (show ee * j ≤ L + k' by omega)))
      omega
    have hxl : ∀ x, x ≤ 2 ^ ee → (dg x).length ≤ 17000 := by
      intro x hx
      have := len_pow_two (Nat.le_trans hx (Nat.pow_le_pow_right (by omega) heL))
      omega
    have hpw : ∀ W v x, Num W W.heap.size v x → x ≤ 2 ^ ee → Calls Tryz.prog 135 #[v, .int .i64 (k' : Int)] W (NumPost W (x ^ k')) := fun W v x hv hx =>
      power_any v x k' W hv (by omega) (fun j hj => by have := hpl x j hx hj; omega) (by have := hxl x hx; omega)
    have hdv : ∀ W v x, Below w.heap.size w W → Num W W.heap.size v (x ^ k') → 0 < x → Calls Tryz.prog 98 #[va, v] W (DivPost W a (x ^ k')) := fun W v x hW hv hx =>
      divide_any va v a (x ^ k') W (Lim.up ha hW) hv (by omega) (Nat.pos_iff_ne_zero.1 (Nat.pow_pos hx))
    have hof := of_any k' (by omega)
    have hpr : ∀ W v u x, Num W W.heap.size v x → Num W W.heap.size u k' → x ≤ 2 ^ ee → Calls Tryz.prog 85 #[v, u] W (NumPost W (x * k')) := by
      intro W v u x hv hu hx
      have := product_any v u _ _ W hv hu (by have := hxl x hx; omega) (by have := (dg_le (n := k') (k := 1)).2 (by rw [Nat.pow_one, LB_eq]; omega); omega)
      rw [val_dg, val_dg] at this
      exact this
    have hql : ∀ x, (dg (a / x)).length ≤ 512 := fun x => Nat.le_trans (dg_mono (Nat.div_le_self _ _)) hla
    have hxk : ∀ x, x ≤ 2 ^ ee → (dg (x * k')).length ≤ 18000 := by
      intro x hx
      have h1 : x * k' ≤ 2 ^ ee * 2 ^ 6 := Nat.mul_le_mul hx (by omega)
      rw [← Nat.pow_add] at h1
      have := len_pow_two h1
      omega
    have hsm : ∀ W v u x y, Num W W.heap.size v (x * k') → Num W W.heap.size u (a / y) → x ≤ 2 ^ ee → Calls Tryz.prog 84 #[v, u] W (NumPost W (x * k' + a / y)) := by
      intro W v u x y hv hu hx
      have := sum_any v u _ _ W hv hu (by have := hxk x hx; omega) (by have := hql y; omega)
      rw [val_dg, val_dg] at this
      exact this
    have hxs : ∀ x y, x ≤ 2 ^ ee → (dg (x * k' + a / y)).length ≤ 20000 := by
      intro x y hx
      have h1 : x * k' ≤ 2 ^ ee * 2 ^ 6 := Nat.mul_le_mul hx (by omega)
      rw [← Nat.pow_add] at h1
      have h2 : a / y ≤ a := Nat.div_le_self _ _
      have h3 := bits_lt a
      rw [← hL] at h3
      have h4 : 2 ^ (ee + 6) ≤ 2 ^ (L + k' + 6) := Nat.pow_le_pow_right (by omega) (by omega)
      have h5 : 2 ^ L ≤ 2 ^ (L + k' + 6) := Nat.pow_le_pow_right (by omega) (by omega)
      have h6 : 2 ^ (L + k' + 6 + 1) = 2 ^ (L + k' + 6) * 2 := Nat.pow_succ ..
      have := len_pow_two (n := x * k' + a / y) (N := L + k' + 6 + 1) (by omega)
      omega
    have hlb : ∀ W v x y, Num W W.heap.size v (x * k' + a / y) → x ≤ 2 ^ ee → Calls Tryz.prog 78 #[v, .int .u32 (k : Int)] W fun e w' => ∃ v', e = .returned (.tuple #[v', .int .u32 (((x * k' + a / y) % k : Nat) : Int)]) ∧ Num w' w'.heap.size v' ((x * k' + a / y) / k) ∧ Below W.heap.size W w' := fun W v x y hv hx =>
      limb_any v _ k W hv (by have := hxs x y hx; omega) (by omega) (by rw [LB_eq]; omega)
    have hcm : ∀ W v u x y z, Num W W.heap.size v ((x * k' + a / z) / k) → Num W W.heap.size u y → x ≤ 2 ^ ee → Calls Tryz.prog 88 #[v, u] W fun e w' => e = .returned (.int .i64 (cmpI ((x * k' + a / z) / k) y)) ∧ Drawn W w' := fun W v u x y z hv hu h1 =>
      compare_any v u _ y W hv hu (Nat.le_trans (dg_mono (Nat.div_le_self _ _)) (by have := hxs x z h1; omega))
    have hee1 : ee < 100000 := by omega
    have hstep : ∀ x, r ≤ x → 0 < x → (x ≤ (x * k' + a / x ^ k') / k → x = r) ∧ r ≤ (x * k' + a / x ^ k') / k ∧ 0 < (x * k' + a / x ^ k') / k := by
      intro x h1 h2
      have hr' : IsRoot a (k' + 1) r := by rw [← hkk]; exact hr
      have h3 := newton_above (a := a) (r := r) (x := x) (k := k') h2 hr'.1
      rw [hkk, Nat.mul_comm x k']
      exact ⟨fun h => newton_end h2 hr' h1 h, h3, by omega⟩
    rw [decide_eq_false h0] at hz
    have e0 : (k : Int) - 1 = (k' : Int) := by omega
    have e0w : IntKind.i64.wrap ((k : Int) - 1) = (k' : Int) := by rw [e0]; exact IntWalk.i64_in _ (by omega)
    have e1 : ((L : Int) + (k : Int) - 1) / (k : Int) = (ee : Int) := by
      rw [show (L : Int) + (k : Int) - 1 = ((L + k' : Nat) : Int) by omega, ← Int.natCast_ediv, ← hee]
    have e1t : ((L : Int) + (k : Int) - 1).tdiv (k : Int) = (ee : Int) := by rw [Int.tdiv_eq_ediv_of_nonneg (by omega)]; exact e1
    have e1w : IntKind.i64.wrap (((L : Int) + (k : Int) - 1) / (k : Int)) = (ee : Int) := by rw [e1]; exact IntWalk.i64_in _ (by omega)
    have e1wt : IntKind.i64.wrap (((L : Int) + (k : Int) - 1).tdiv (k : Int)) = (ee : Int) := by rw [e1t]; exact IntWalk.i64_in _ (by omega)
    have hkne : ((k : Int) == 0) = false := by simp; omega
    have hkn2 : ¬ (k : Int) = 0 := by omega
    have hkn3 : ¬ k = 0 := by omega
    have HR := Lib.hid hr
    obtain ⟨A, capa, rfl, -⟩ := ha.form
    have HZ := Lib.hid hz
    have HLN := Lib.hid hln
    have HSU := Lib.hid hsu
    have HPW := Lib.hid hpw
    have HDV := Lib.hid hdv
    have HOF := Lib.hid hof
    have HPR := Lib.hid hpr
    have HSM := Lib.hid hsm
    have HLB := Lib.hid hlb
    have HCM := Lib.hid hcm
    have HSTEP := Lib.hid hstep
    have HST := Lib.hid hstart
    have HR1 := Lib.hid hr1
    have HKK := Lib.hid hkk
    clear ha hz hln hsu hpw hdv hof hpr hsm hlb hcm hxs hstep hstart hr1 hr hpl hxl hql hxk hla hbits hL hee hek hek2 heL hek' hkk
    generalize (dg a).length = la at *
    obtain ⟨M, hM⟩ : ∃ M, M = 2 ^ ee := ⟨_, rfl⟩
    rw [← hM] at HSU HPW HPR HSM HLB HCM HST
    clear hM
    go_enter Tryz.func104, Tryz.ntmps104
    go_wp2_with fail
    refine HZ.out.mono ?_
    rintro e w1 ⟨rfl, rfl⟩
    go_wp2_with fail
    refine (HLN.out _ ((Below.refl _ w).alloc (Nat.le_refl _) _)).mono ?_
    rintro e w1 ⟨rfl, rfl⟩
    go_wp2_with fail
    refine HSU.out.mono ?_
    rintro e w2 ⟨vx, he, hnx, hb2⟩
    subst he
    have hb0 : Below w.heap.size w (w.alloc (.cells #[.int .u32 1] 64)) := (Below.refl _ w).alloc (Nat.le_refl _) _
    have hb12 := hb0.trans (hb2.mono hb0.size)
    go_wp2_with fail
    go_loopw [5] (fun x wr => RtRel w r M x wr) (fun x wr => numOf wr x)
    case atStart => exact ⟨M, hnx, HST.out, Nat.lt_of_lt_of_le HR1.out HST.out, Nat.le_refl _, hb12⟩
    case round =>
      obtain ⟨x, hx, hrx, hx0, hxM, hb⟩ := hrel
      have hnum := numOf_eq hx
      obtain ⟨hs1, hs2, hs3⟩ := HSTEP.out x hrx hx0
      have HNUM := Lib.hid hnum
      have HS1 := Lib.hid hs1
      have HS2 := Lib.hid hs2
      have HS3 := Lib.hid hs3
      have HX := Lib.hid hx
      clear hnum hs1 hs2 hs3 hx
      go_wp2_with fail
      refine (HPW.out wr _ x HX.out hxM).mono ?_
      rintro e w3 ⟨vp, he, hp, hb3⟩
      subst he
      go_wp2_with fail
      refine (HDV.out w3 vp x (hb.trans (hb3.mono hb.size)) hp hx0).mono ?_
      rintro e w4 ⟨q, rr, he, hq, -, hb4⟩
      subst he
      have hb14 := hb3.trans (hb4.mono hb3.size)
      go_wp2_with fail
      refine (HOF.out w4).mono ?_
      rintro e w5 ⟨vk, he, hk5, hb5⟩
      subst he
      have hb15 := hb14.trans (hb5.mono hb14.size)
      go_wp2_with fail
      refine (HPR.out w5 _ vk x (Lim.up HX.out hb15) hk5 hxM).mono ?_
      rintro e w6 ⟨v6, he, hp6, hb6⟩
      subst he
      have hb46 := hb5.trans (hb6.mono hb5.size)
      have hb16 := hb15.trans (hb6.mono hb15.size)
      go_wp2_with fail
      refine (HSM.out w6 v6 q x (x ^ k') hp6 (Lim.up hq hb46) hxM).mono ?_
      rintro e w7 ⟨v7, he, hs7, hb7⟩
      subst he
      have hb17 := hb16.trans (hb7.mono hb16.size)
      go_wp2_with fail
      refine (HLB.out w7 v7 x (x ^ k') hs7 hxM).mono ?_
      rintro e w8 ⟨v8, he, hm8, hb8⟩
      subst he
      have hb18 := hb17.trans (hb8.mono hb17.size)
      have hx8 := Lim.up HX.out hb18
      have hcmp := HCM.out w8 v8 _ x x (x ^ k') hm8 hx8 hxM
      obtain ⟨mean, hmean⟩ : ∃ mean, mean = (x * k' + a / x ^ k') / k := ⟨_, rfl⟩
      have hS1 := HS1.out
      have hS2 := HS2.out
      have hS3 := HS3.out
      rw [← hmean] at hcmp hm8 hS1 hS2 hS3
      clear hmean
      by_cases hlt : mean < x
      · rw [cmpI_lt hlt] at hcmp
        have HCMP := Lib.hid hcmp
        clear hcmp
        go_wp2_with fail
        refine HCMP.out.mono ?_
        rintro e w9 ⟨rfl, hd⟩
        have hm9 : Num w9 w9.heap.size v8 mean := Lim.up hm8 hd.below
        have hrel : RtRel w r M v8 w9 := ⟨mean, hm9, hS2, hS3, by omega, hb.trans ((hb18.trans (hd.below.mono hb18.size)).mono hb.size)⟩
        have hmea : numOf w9 v8 = mean := numOf_eq hm9
        have HREL := Lib.hid hrel
        have HMEA := Lib.hid hmea
        clear hrel hmea hm9 hm8
        go_wp2_with fail
        exact ⟨HREL.out, by rw [HMEA.out, HNUM.out]; exact hlt⟩
      · obtain rfl := hS1 (by omega)
        obtain ⟨c, hcc, hc0⟩ : ∃ c : Int, cmpI mean x = c ∧ 0 ≤ c := by
          rcases Nat.lt_or_ge x mean with h | h
          · exact ⟨1, cmpI_gt h, by omega⟩
          · exact ⟨0, cmpI_eq (by omega), by omega⟩
        rw [hcc] at hcmp
        have HCMP := Lib.hid hcmp
        clear hcmp hcc
        go_wp2_with fail
        refine HCMP.out.mono ?_
        rintro e w9 ⟨rfl, hd⟩
        go_wp2_with fail
        go_ret
        exact ⟨_, rfl, Lim.up hx8 hd.below, hb.trans ((hb18.trans (hd.below.mono hb18.size)).mono hb.size)⟩
end Go.Proofs.YtlababdfdjjjaaaGreatDoor
