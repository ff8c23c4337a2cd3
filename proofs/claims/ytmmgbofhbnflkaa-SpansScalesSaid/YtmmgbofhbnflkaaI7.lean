import Derived.Test.YtmmgbofhbnflkaaI5
namespace Go.Proofs.Ytmmgbofhbnflkaa
open Go.RowKit

theorem prV_eq (p : Int) : prV p = .agg #[.int .i64 (p / 18446744073709551616), .int .u64 (p % 18446744073709551616)] := rfl
/-! A power is allowed as far as all before it are. -/
theorem pow_bound {x : Int} {k : Nat} (hx : I64 x) (h : okB (x ^ k) = true) : Fits (x ^ k * x) := by
  have h1 := okB_iff.1 h
  have := mul_bound (x := x ^ k) (y := x) (by unfold I64; omega) hx
  unfold Fits; omega

set_option maxRecDepth 100000 in
set_option maxHeartbeats 2000000 in
theorem power_any (x : Int) (n : Nat) (w : World) (hx : I64 x) (hn : n ≤ 1000) :
    Calls Try.prog 56 #[.int .i64 x, .int .i64 (n : Int)] w fun e w' => e = .returned (.tuple #[.int .i64 (if okB (x ^ n) then x ^ n else 0), .bool (okB (x ^ n))]) ∧ Below w.heap.size w w' := by
  have hno : ∀ k, k ≤ n → okB (x ^ k) = false → (.tuple #[.int .i64 0, .bool false] : Value) = .tuple #[.int .i64 (if okB (x ^ n) then x ^ n else 0), .bool (okB (x ^ n))] := by
    intro k hk h
    have : okB (x ^ n) = false := by
      cases h' : okB (x ^ n)
      · rfl
      · rw [okB_pow_le hk h'] at h; cases h
    rw [this]; rfl
  have hyes : okB (x ^ n) = true → (.tuple #[.int .i64 (x ^ n), .bool true] : Value) = .tuple #[.int .i64 (if okB (x ^ n) then x ^ n else 0), .bool (okB (x ^ n))] := by
    intro h
    rw [h]; rfl
  generalize (.tuple #[.int .i64 (if okB (x ^ n) then x ^ n else 0), .bool (okB (x ^ n))] : Value) = R at *
  have HNO := Lib.hid hno
  have HYES := Lib.hid hyes
  have HX := Lib.hid hx
  clear hno hyes hx
  go_enter Try.func56, Try.ntmps56
  go_wp2_with fail
  go_loopw [6, 7, 9] (fun p f i wr => ∃ k : Nat, k ≤ n ∧ i = .int .i64 (k : Int) ∧ p = .int .i64 (x ^ k) ∧ f = .bool true ∧ okB (x ^ k) = true ∧ Below w.heap.size w wr) (fun _ _ i _ => n - (intOf i).toNat)
  case atStart => exact ⟨0, Nat.zero_le _, rfl, by rw [Int.pow_zero], rfl, by rw [Int.pow_zero]; decide, Below.refl _ _⟩
  case round =>
    obtain ⟨k, hk, rfl, rfl, rfl, hok, hb⟩ := hrel
    by_cases hlt : k < n
    · have hklt : (k : Int) < (n : Int) := by omega
      have hk0 : (0 : Int) ≤ (k : Int) := Int.natCast_nonneg _
      have hok' := okB_iff.1 hok
      have h1 := fun w => times_any (x ^ k) x w (by unfold I64; omega) HX.out
      have h2 := fun w => bound_any (x ^ k * x) w (pow_bound HX.out hok)
      obtain ⟨q, hq⟩ : ∃ q, q = x ^ (k + 1) := ⟨_, rfl⟩
      rw [← Int.pow_succ, ← hq] at h1 h2
      rw [prV_eq] at h1 h2
      generalize q / 18446744073709551616 = qh at *
      generalize q % 18446744073709551616 = ql at *
      have hno' := HNO.out (k + 1) (by omega)
      rw [← hq] at hno'
      obtain ⟨b, hbq⟩ : ∃ b, b = okB q := ⟨_, rfl⟩
      rw [← hbq] at h2 hno'
      have HB := Lib.hid hb
      have HQ := Lib.hid hq
      have HBQ := Lib.hid hbq
      generalize x ^ k = pk at *
      clear hok hok' hb hq hbq
      cases b
      · have hR := hno' rfl
        clear hno' HNO HYES
        subst hR
        simp only [Bool.false_eq_true, if_false] at h2
        have H1 := Lib.hid h1
        have H2 := Lib.hid h2
        clear h1 h2
        go_wp2_with fail
        refine (H1.out _).mono ?_
        rintro e w1 ⟨he, hb1⟩
        subst he
        have HB1 := Lib.hid (HB.out.trans (hb1.mono HB.out.size))
        clear hb1
        go_wp2_with fail
        refine (H2.out _).mono ?_
        rintro e w2 ⟨he, hb2⟩
        subst he
        have HB2 := Lib.hid (HB1.out.trans (hb2.mono HB1.out.size))
        clear hb2
        go_wp2_with fail
        go_ret2
        exact ⟨rfl, HB2.out⟩
      · clear hno'
        simp only [if_true] at h2
        have H1 := Lib.hid h1
        have H2 := Lib.hid h2
        clear h1 h2
        go_wp2_with fail
        refine (H1.out _).mono ?_
        rintro e w1 ⟨he, hb1⟩
        subst he
        have HB1 := Lib.hid (HB.out.trans (hb1.mono HB.out.size))
        clear hb1
        go_wp2_with fail
        refine (H2.out _).mono ?_
        rintro e w2 ⟨he, hb2⟩
        subst he
        have HB2 := Lib.hid (HB1.out.trans (hb2.mono HB1.out.size))
        clear hb2
        go_wp2_with fail
        first
          | exact ⟨⟨k + 1, by omega, by first | rfl | go_num, by rw [HQ.out], rfl, by rw [← HQ.out]; exact HBQ.out.symm, HB2.out⟩, by simp [intOf]; omega⟩
          | (go_roundw
             case rel => exact ⟨k + 1, by omega, by first | rfl | go_num, by rw [HQ.out], rfl, by rw [← HQ.out]; exact HBQ.out.symm, HB2.out⟩
             case measure => simp [intOf]; omega)
    · obtain rfl : k = n := by omega
      have hR := HYES.out hok
      subst hR
      have HB := Lib.hid hb
      clear hok hb HNO HYES
      go_wp2_with fail
      go_ret2
      exact ⟨rfl, HB.out⟩

/-! The root, bit by bit. -/
def powOk (n x : Int) (k : Nat) : Bool := okB (x ^ k) && decide (x ^ k ≤ n)
theorem powOk_iff {n x : Int} {k : Nat} (hn : n ≤ 4611686018427387904) (hx : 0 ≤ x) : powOk n x k = true ↔ x ^ k ≤ n := by
  unfold powOk
  rw [Bool.and_eq_true, decide_eq_true_eq]
  constructor
  · exact fun h => h.2
  · intro h
    refine ⟨okB_iff.2 ⟨?_, by omega⟩, h⟩
    have : 0 ≤ x ^ k := Int.pow_nonneg hx
    omega
def RtInv (n : Int) (k : Nat) (r b : Int) : Prop := 0 ≤ r ∧ r ^ k ≤ n ∧ n < (r + 2 * b) ^ k ∧ r + 2 * b ≤ 9223372036854775808 ∧ r ≤ 4611686018427387904
theorem rt_start {n : Int} {k : Nat} (h0 : 0 ≤ n) (hn : n ≤ 4611686018427387904) (hk : 1 ≤ k) : RtInv n k 0 4611686018427387904 := by
  refine ⟨by omega, ?_, ?_, by omega, by omega⟩
  · obtain ⟨j, rfl⟩ : ∃ j, k = j + 1 := ⟨k - 1, by omega⟩
    rw [Int.pow_succ, Int.mul_zero]; exact h0
  · have h1 : (9223372036854775808 : Nat) ^ 1 ≤ 9223372036854775808 ^ k := Nat.pow_le_pow_right (by omega) hk
    rw [Nat.pow_one] at h1
    have h2 : ((9223372036854775808 ^ k : Nat) : Int) = (0 + 2 * 4611686018427387904 : Int) ^ k := by
      rw [Int.natCast_pow]; rfl
    rw [← h2]
    generalize (9223372036854775808 : Nat) ^ k = z at *
    omega
theorem root_le {r n : Int} {k : Nat} (h0 : 0 ≤ r) (hk : 1 ≤ k) (h : r ^ k ≤ n) (hn : n ≤ 4611686018427387904) : r ≤ 4611686018427387904 := by
  obtain ⟨r, rfl⟩ := Int.eq_ofNat_of_zero_le h0
  have hn0 : 0 ≤ n := Int.le_trans (Int.pow_nonneg h0) h
  obtain ⟨n, rfl⟩ := Int.eq_ofNat_of_zero_le hn0
  have := rootN_le (r := r) (k := k) (n := n) hk (by exact_mod_cast h) (by omega)
  omega
theorem rt_yes {n r b : Int} {k : Nat} (h : RtInv n k r (2 * b)) (hb : 0 ≤ b) (hk : 1 ≤ k) (hn : n ≤ 4611686018427387904) (hc : (r + 2 * b) ^ k ≤ n) : RtInv n k (r + 2 * b) b := by
  obtain ⟨h0, h1, h2, h3, h4⟩ := h
  refine ⟨by omega, hc, ?_, by omega, root_le (by omega) hk hc hn⟩
  have e : r + 2 * b + 2 * b = r + 2 * (2 * b) := by omega
  rw [e]; exact h2
theorem rt_no {n r b : Int} {k : Nat} (h : RtInv n k r (2 * b)) (hc : ¬ (r + 2 * b) ^ k ≤ n) : RtInv n k r b := by
  obtain ⟨h0, h1, h2, h3, h4⟩ := h
  exact ⟨h0, h1, by omega, by omega, h4⟩
theorem rt_last {n r : Int} {k : Nat} (h : RtInv n k r 1) : ((r + 1) ^ k ≤ n → IsRoot n (r + 1) k) ∧ (¬ (r + 1) ^ k ≤ n → IsRoot n r k) := by
  obtain ⟨h0, h1, h2, h3, h4⟩ := h
  exact ⟨fun h => ⟨by omega, h, by rw [show r + 1 + 1 = r + 2 * 1 by omega]; exact h2⟩, fun h => ⟨h0, h1, by omega⟩⟩
def RtAt (n : Int) (k : Nat) (R : Int) (B : Nat) : Prop := (∃ i : Nat, i ≤ 62 ∧ B = 2 ^ i ∧ RtInv n k R B) ∨ (B = 0 ∧ IsRoot n R k)
theorem rt_round {n R : Int} {k B : Nat} (h : RtAt n k R B) (hB : B ≠ 0) (hk : 1 ≤ k) (hn : n ≤ 4611686018427387904) :
    0 ≤ R ∧ B ≤ 4611686018427387904 ∧ R + B < 9223372036854775808 ∧ ((R + B) ^ k ≤ n → RtAt n k (R + B) (B / 2)) ∧ (¬ (R + B) ^ k ≤ n → RtAt n k R (B / 2)) := by
  rcases h with ⟨i, hi, rfl, hr⟩ | ⟨e, _⟩
  · have hp : 2 ^ i ≤ 2 ^ 62 := Nat.pow_le_pow_right (by omega) hi
    have hp0 : 0 < 2 ^ i := Nat.pos_of_ne_zero (by simp)
    have e62 : (2 : Nat) ^ 62 = 4611686018427387904 := rfl
    refine ⟨hr.1, by omega, by have := hr.2.2.2.1; omega, ?_⟩
    cases i with
    | zero =>
      have hr' : RtInv n k R 1 := hr
      have hl := rt_last hr'
      exact ⟨fun h => .inr ⟨rfl, hl.1 h⟩, fun h => .inr ⟨rfl, hl.2 h⟩⟩
    | succ i =>
      have e : ((2 ^ (i + 1) : Nat) : Int) = 2 * ((2 ^ i : Nat) : Int) := by rw [Nat.pow_succ]; omega
      have e2 : 2 ^ (i + 1) / 2 = 2 ^ i := by rw [Nat.pow_succ]; omega
      rw [e] at hr ⊢
      rw [e2]
      exact ⟨fun h => .inl ⟨i, by omega, rfl, rt_yes hr (by omega) hk hn h⟩, fun h => .inl ⟨i, by omega, rfl, rt_no hr h⟩⟩
  · exact absurd e hB

set_option maxRecDepth 100000 in
set_option maxHeartbeats 2000000 in
theorem root_any (n : Int) (k : Nat) (w : World) (h0 : 0 ≤ n) (hn : n ≤ 4611686018427387904) (hk : 1 ≤ k) (hk' : k ≤ 1000) :
    Calls Try.prog 58 #[.int .i64 n, .int .i64 (k : Int)] w fun e w' => ∃ r, e = .returned (.int .i64 r) ∧ IsRoot n r k ∧ Below w.heap.size w w' := by
  have hs := rt_start h0 hn hk
  have HS := Lib.hid hs
  have HN0 := Lib.hid h0
  have HN := Lib.hid hn
  clear hs h0 hn
  go_enter Try.func58, Try.ntmps58
  go_wp2_with fail
  go_loopw [5, 6] (fun r b wr => ∃ (R : Int) (B : Nat), r = .int .i64 R ∧ b = .int .i64 (B : Int) ∧ RtAt n k R B ∧ Below w.heap.size w wr) (fun _ b _ => (intOf b).toNat)
  case atStart => exact ⟨0, 4611686018427387904, rfl, rfl, .inl ⟨62, by omega, rfl, HS.out⟩, Below.refl _ _⟩
  case round =>
    obtain ⟨R, B, rfl, rfl, hat, hb⟩ := hrel
    have HB := Lib.hid hb
    clear hb HS
    by_cases hB : B = 0
    · subst hB
      have hr : IsRoot n R k := by
        rcases hat with ⟨i, _, e, _⟩ | ⟨_, h⟩
        · have : 0 < 2 ^ i := Nat.pos_of_ne_zero (by simp)
          omega
        · exact h
      have HR := Lib.hid hr
      clear hr hat
      go_wp2_with fail
      go_ret
      exact ⟨R, rfl, HR.out, HB.out⟩
    · obtain ⟨hR0, hB1, hsum, hyes, hno⟩ := rt_round hat hB hk HN.out
      have hpw := fun w => power_any (R + B) k w (by unfold I64; omega) hk'
      have tB : 0 < B := by omega
      obtain ⟨C, hC⟩ : ∃ C : Nat, C = B / 2 := ⟨_, rfl⟩
      have eC : (B : Int) / 2 = (C : Int) := by omega
      rw [← hC] at hyes hno
      have hCB : C < B := by omega
      obtain ⟨Q, hQ⟩ : ∃ Q, Q = R + (B : Int) := ⟨_, rfl⟩
      have eQ : R + (B : Int) = Q := hQ.symm
      rw [← hQ] at hyes hno hpw hsum
      have hQ0 : 0 ≤ Q := by omega
      have hiff := powOk_iff (n := n) (x := Q) (k := k) HN.out hQ0
      have HQ0 := Lib.hid hQ0
      have HYES := Lib.hid hyes
      have HNO := Lib.hid hno
      have HCB := Lib.hid hCB
      clear hat hC hyes hno hQ hCB hQ0 hB
      unfold powOk at hiff
      by_cases hc : Q ^ k ≤ n
      · have hc2 := hiff.2 hc
        rw [Bool.and_eq_true] at hc2
        have hok := hc2.1
        rw [hok] at hpw
        simp only [if_true] at hpw
        have HA := Lib.hid (HYES.out hc)
        have tc := hc2.2
        clear hiff hc2 HYES HNO hok hc
        generalize Q ^ k = P at *
        have HP := Lib.hid hpw
        clear hpw
        go_wp2_with fail
        refine (HP.out _).mono ?_
        rintro e w1 ⟨he, hb1⟩
        subst he
        have HB1 := Lib.hid (HB.out.trans (hb1.mono HB.out.size))
        clear hb1
        go_wp2_with fail
        first
          | exact ⟨⟨Q, C, rfl, rfl, HA.out, HB1.out⟩, by have := HCB.out; simp [intOf]; omega⟩
          | (go_roundw
             case rel => exact ⟨Q, C, rfl, rfl, HA.out, HB1.out⟩
             case measure => have := HCB.out; simp [intOf]; omega)
      · have HA := Lib.hid (HNO.out hc)
        have tc : decide (Q ^ k ≤ n) = false := decide_eq_false hc
        clear hiff HYES HNO hc
        generalize Q ^ k = P at *
        obtain ⟨b, hbq⟩ : ∃ b, b = okB P := ⟨_, rfl⟩
        rw [← hbq] at hpw
        clear hbq
        cases b
        · simp only [Bool.false_eq_true, if_false] at hpw
          have HP := Lib.hid hpw
          clear hpw
          go_wp2_with fail
          refine (HP.out _).mono ?_
          rintro e w1 ⟨he, hb1⟩
          subst he
          have HB1 := Lib.hid (HB.out.trans (hb1.mono HB.out.size))
          clear hb1
          go_wp2_with fail
          first
            | exact ⟨⟨R, C, rfl, rfl, HA.out, HB1.out⟩, by have := HCB.out; simp [intOf]; omega⟩
            | (go_roundw
               case rel => exact ⟨R, C, rfl, rfl, HA.out, HB1.out⟩
               case measure => have := HCB.out; simp [intOf]; omega)
        · simp only [if_true] at hpw
          have HP := Lib.hid hpw
          clear hpw
          go_wp2_with fail
          refine (HP.out _).mono ?_
          rintro e w1 ⟨he, hb1⟩
          subst he
          have HB1 := Lib.hid (HB.out.trans (hb1.mono HB.out.size))
          clear hb1
          go_wp2_with fail
          first
            | exact ⟨⟨R, C, rfl, rfl, HA.out, HB1.out⟩, by have := HCB.out; simp [intOf]; omega⟩
            | (go_roundw
               case rel => exact ⟨R, C, rfl, rfl, HA.out, HB1.out⟩
               case measure => have := HCB.out; simp [intOf]; omega)
end Go.Proofs.Ytmmgbofhbnflkaa
