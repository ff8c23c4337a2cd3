import Derived.Test.YtmbcejldifobnaaDoorC09
import Derived.Test.YtmbcejldifobnaaDoorC10
import Derived.Deep.RegionWith
import Derived.Test.YtmbcejldifobnaaDoorC08
namespace Go.Proofs.YtmbcejldifobnaaDoor.Sp
open Go.RowKit
theorem prV_eq (p : Int) : prV p = .agg #[.int .i64 (p / 18446744073709551616), .int .u64 (p % 18446744073709551616)] := rfl
theorem pow_bound {x : Int} {k : Nat} (hx : I64 x) (h : okB (x ^ k) = true) : Fits (x ^ k * x) := by
  have h1 := okB_iff.1 h
  have := mul_bound (x := x ^ k) (y := x) (by unfold I64; omega) hx
  unfold Fits; omega

set_option maxRecDepth 100000 in
set_option maxHeartbeats 2000000 in
theorem power_any (x : Int) (n : Nat) (w : World) (hx : I64 x) (hn : n ≤ 1000) :
    Calls Tryd.prog 196 #[.int .i64 x, .int .i64 (n : Int)] w fun e w' => e = .returned (.tuple #[.int .i64 (if okB (x ^ n) then x ^ n else 0), .bool (okB (x ^ n))]) ∧ Below w.heap.size w w' := by
  have hno : ∀ k, k ≤ n → okB (x ^ k) = false → (.tuple #[.int .i64 0, .bool false] : Value) = .tuple #[.int .i64 (if okB (x ^ n) then x ^ n else 0), .bool (okB (x ^ n))] := by
    intro k hk h
    have : okB (x ^ n) = false := by
      cases h' : okB (x ^ n)
      · rfl
      · rw [okB_pow_le hk h'] at h; cases h
    rw [this]; rfl
  have hyes : okB (x ^ n) = true → (.tuple #[.int .i64 (x ^ n), .bool true] : Value) = .tuple #[.int .i64 (if okB (x ^ n) then x ^ n else 0), .bool (okB (x ^ n))] := by
    intro h
    rw [h]; rfl
  generalize (.tuple #[.int .i64 (if okB (x ^ n) then x ^ n else 0), .bool (okB (x ^ n))] : Value) = R at *
  have HNO := Lib.hid hno
  have HYES := Lib.hid hyes
  have HX := Lib.hid hx
  clear hno hyes hx
  go_enter Tryd.func196, Tryd.ntmps196
  go_wp2_with fail
  go_loopw [6, 7, 9] (fun p f i wr => ∃ k : Nat, k ≤ n ∧ i = .int .i64 (k : Int) ∧ p = .int .i64 (x ^ k) ∧ f = .bool true ∧ okB (x ^ k) = true ∧ Below w.heap.size w wr) (fun _ _ i _ => n - (intOf i).toNat)
  case atStart => exact ⟨0, Nat.zero_le _, rfl, by rw [Int.pow_zero], rfl, by rw [Int.pow_zero]; decide, Below.refl _ _⟩
  case round =>
    obtain ⟨k, hk, rfl, rfl, rfl, hok, hb⟩ := hrel
    by_cases hlt : k < n
    · have hklt : (k : Int) < (n : Int) := by omega
      have hk0 : (0 : Int) ≤ (k : Int) := Int.natCast_nonneg _
      have hok' := okB_iff.1 hok
      have h1 := fun w => times_any (x ^ k) x w (by unfold I64; omega) HX.out
      have h2 := fun w => bound_any (x ^ k * x) w (pow_bound HX.out hok)
      obtain ⟨q, hq⟩ : ∃ q, q = x ^ (k + 1) := ⟨_, rfl⟩
      rw [← Int.pow_succ, ← hq] at h1 h2
      rw [prV_eq] at h1 h2
      generalize q / 18446744073709551616 = qh at *
      generalize q % 18446744073709551616 = ql at *
      have hno' := HNO.out (k + 1) (by omega)
      rw [← hq] at hno'
      obtain ⟨b, hbq⟩ : ∃ b, b = okB q := ⟨_, rfl⟩
      rw [← hbq] at h2 hno'
      have HB := Lib.hid hb
      have HQ := Lib.hid hq
      have HBQ := Lib.hid hbq
      generalize x ^ k = pk at *
      clear hok hok' hb hq hbq
      cases b
      · have hR := hno' rfl
        clear hno' HNO HYES
        subst hR
        simp only [Bool.false_eq_true, if_false] at h2
        have H1 := Lib.hid h1
        have H2 := Lib.hid h2
        clear h1 h2
        go_wp2_with fail
        refine (H1.out _).mono ?_
        rintro e w1 ⟨he, hb1⟩
        subst he
        have HB1 := Lib.hid (HB.out.trans (hb1.mono HB.out.size))
        clear hb1
        go_wp2_with fail
        refine (H2.out _).mono ?_
        rintro e w2 ⟨he, hb2⟩
        subst he
        have HB2 := Lib.hid (HB1.out.trans (hb2.mono HB1.out.size))
        clear hb2
        go_wp2_with fail
        go_ret2
        exact ⟨rfl, HB2.out⟩
      · clear hno'
        simp only [if_true] at h2
        have H1 := Lib.hid h1
        have H2 := Lib.hid h2
        clear h1 h2
        go_wp2_with fail
        refine (H1.out _).mono ?_
        rintro e w1 ⟨he, hb1⟩
        subst he
        have HB1 := Lib.hid (HB.out.trans (hb1.mono HB.out.size))
        clear hb1
        go_wp2_with fail
        refine (H2.out _).mono ?_
        rintro e w2 ⟨he, hb2⟩
        subst he
        have HB2 := Lib.hid (HB1.out.trans (hb2.mono HB1.out.size))
        clear hb2
        go_wp2_with fail
        first
          | exact ⟨⟨k + 1, by omega, by first | rfl | go_num, by rw [HQ.out], rfl, by rw [← HQ.out]; exact HBQ.out.symm, HB2.out⟩, by simp [intOf]; omega⟩
          | (go_roundw
             case rel => exact ⟨k + 1, by omega, by first | rfl | go_num, by rw [HQ.out], rfl, by rw [← HQ.out]; exact HBQ.out.symm, HB2.out⟩
             case measure => simp [intOf]; omega)
    · obtain rfl : k = n := by omega
      have hR := HYES.out hok
      subst hR
      have HB := Lib.hid hb
      clear hok hb HNO HYES
      go_wp2_with fail
      go_ret2
      exact ⟨rfl, HB.out⟩

def powOk (n x : Int) (k : Nat) : Bool := okB (x ^ k) && decide (x ^ k ≤ n)
theorem powOk_iff {n x : Int} {k : Nat} (hn : n ≤ 4611686018427387904) (hx : 0 ≤ x) : powOk n x k = true ↔ x ^ k ≤ n := by
  unfold powOk
  rw [Bool.and_eq_true, decide_eq_true_eq]
  constructor
  · exact fun h => h.2
  · intro h
    refine ⟨okB_iff.2 ⟨?_, by omega⟩, h⟩
    have : 0 ≤ x ^ k := Int.pow_nonneg hx
    omega
def RtInv (n : Int) (k : Nat) (r b : Int) : Prop := 0 ≤ r ∧ r ^ k ≤ n ∧ n < (r + 2 * b) ^ k ∧ r + 2 * b ≤ 9223372036854775808 ∧ r ≤ 4611686018427387904
theorem rt_start {n : Int} {k : Nat} (h0 : 0 ≤ n) (hn : n ≤ 4611686018427387904) (hk : 1 ≤ k) : RtInv n k 0 4611686018427387904 := by
  refine ⟨by omega, ?_, ?_, by omega, by omega⟩
  · obtain ⟨j, rfl⟩ : ∃ j, k = j + 1 := ⟨k - 1, by omega⟩
    rw [Int.pow_succ, Int.mul_zero]; exact h0
  · have h1 : (9223372036854775808 : Nat) ^ 1 ≤ 9223372036854775808 ^ k := Nat.pow_le_pow_right (by omega) hk
    rw [Nat.pow_one] at h1
    have h2 : ((9223372036854775808 ^ k : Nat) : Int) = (0 + 2 * 4611686018427387904 : Int) ^ k := by
      rw [Int.natCast_pow]; rfl
    rw [← h2]
    generalize (9223372036854775808 : Nat) ^ k = z at *
    omega
theorem root_le {r n : Int} {k : Nat} (h0 : 0 ≤ r) (hk : 1 ≤ k) (h : r ^ k ≤ n) (hn : n ≤ 4611686018427387904) : r ≤ 4611686018427387904 := by
  obtain ⟨r, rfl⟩ := Int.eq_ofNat_of_zero_le h0
  have hn0 : 0 ≤ n := Int.le_trans (Int.pow_nonneg h0) h
  obtain ⟨n, rfl⟩ := Int.eq_ofNat_of_zero_le hn0
  have := rootN_le (r := r) (k := k) (n := n) hk (by exact_mod_cast h) (by omega)
  omega
theorem rt_yes {n r b : Int} {k : Nat} (h : RtInv n k r (2 * b)) (hb : 0 ≤ b) (hk : 1 ≤ k) (hn : n ≤ 4611686018427387904) (hc : (r + 2 * b) ^ k ≤ n) : RtInv n k (r + 2 * b) b := by
  obtain ⟨h0, h1, h2, h3, h4⟩ := h
  refine ⟨by omega, hc, ?_, by omega, root_le (by omega) hk hc hn⟩
  have e : r + 2 * b + 2 * b = r + 2 * (2 * b) := by omega
  rw [e]; exact h2
theorem rt_no {n r b : Int} {k : Nat} (h : RtInv n k r (2 * b)) (hc : ¬ (r + 2 * b) ^ k ≤ n) : RtInv n k r b := by
  obtain ⟨h0, h1, h2, h3, h4⟩ := h
  exact ⟨h0, h1, by omega, by omega, h4⟩
theorem rt_last {n r : Int} {k : Nat} (h : RtInv n k r 1) : ((r + 1) ^ k ≤ n → IsRoot n (r + 1) k) ∧ (¬ (r + 1) ^ k ≤ n → IsRoot n r k) := by
  obtain ⟨h0, h1, h2, h3, h4⟩ := h
  exact ⟨fun h => ⟨by omega, h, by rw [show r + 1 + 1 = r + 2 * 1 by omega]; exact h2⟩, fun h => ⟨h0, h1, by omega⟩⟩
def RtAt (n : Int) (k : Nat) (R : Int) (B : Nat) : Prop := (∃ i : Nat, i ≤ 62 ∧ B = 2 ^ i ∧ RtInv n k R B) ∨ (B = 0 ∧ IsRoot n R k)
theorem rt_round {n R : Int} {k B : Nat} (h : RtAt n k R B) (hB : B ≠ 0) (hk : 1 ≤ k) (hn : n ≤ 4611686018427387904) :
    0 ≤ R ∧ B ≤ 4611686018427387904 ∧ R + B < 9223372036854775808 ∧ ((R + B) ^ k ≤ n → RtAt n k (R + B) (B / 2)) ∧ (¬ (R + B) ^ k ≤ n → RtAt n k R (B / 2)) := by
  rcases h with ⟨i, hi, rfl, hr⟩ | ⟨e, _⟩
  · have hp : 2 ^ i ≤ 2 ^ 62 := Nat.pow_le_pow_right (by omega) hi
    have hp0 : 0 < 2 ^ i := Nat.pos_of_ne_zero (by simp)
    have e62 : (2 : Nat) ^ 62 = 4611686018427387904 := rfl
    refine ⟨hr.1, by omega, by have := hr.2.2.2.1; omega, ?_⟩
    cases i with
    | zero =>
      have hr' : RtInv n k R 1 := hr
      have hl := rt_last hr'
      exact ⟨fun h => .inr ⟨rfl, hl.1 h⟩, fun h => .inr ⟨rfl, hl.2 h⟩⟩
    | succ i =>
      have e : ((2 ^ (i + 1) : Nat) : Int) = 2 * ((2 ^ i : Nat) : Int) := by rw [Nat.pow_succ]; omega
      have e2 : 2 ^ (i + 1) / 2 = 2 ^ i := by rw [Nat.pow_succ]; omega
      rw [e] at hr ⊢
      rw [e2]
      exact ⟨fun h => .inl ⟨i, by omega, rfl, rt_yes hr (by omega) hk hn h⟩, fun h => .inl ⟨i, by omega, rfl, rt_no hr h⟩⟩
  · exact absurd e hB

set_option maxRecDepth 100000 in
set_option maxHeartbeats 2000000 in
theorem root_any (n : Int) (k : Nat) (w : World) (h0 : 0 ≤ n) (hn : n ≤ 4611686018427387904) (hk : 1 ≤ k) (hk' : k ≤ 1000) :
    Calls Tryd.prog 195 #[.int .i64 n, .int .i64 (k : Int)] w fun e w' => ∃ r, e = .returned (.int .i64 r) ∧ IsRoot n r k ∧ Below w.heap.size w w' := by
  have hs := rt_start h0 hn hk
  have HS := Lib.hid hs
  have HN0 := Lib.hid h0
  have HN := Lib.hid hn
  clear hs h0 hn
  go_enter Tryd.func195, Tryd.ntmps195
  go_wp2_with fail
  go_loopw [5, 6] (fun r b wr => ∃ (R : Int) (B : Nat), r = .int .i64 R ∧ b = .int .i64 (B : Int) ∧ RtAt n k R B ∧ Below w.heap.size w wr) (fun _ b _ => (intOf b).toNat)
  case atStart => exact ⟨0, 4611686018427387904, rfl, rfl, .inl ⟨62, by omega, rfl, HS.out⟩, Below.refl _ _⟩
  case round =>
    obtain ⟨R, B, rfl, rfl, hat, hb⟩ := hrel
    have HB := Lib.hid hb
    clear hb HS
    by_cases hB : B = 0
    · subst hB
      have hr : IsRoot n R k := by
        rcases hat with ⟨i, _, e, _⟩ | ⟨_, h⟩
        · have : 0 < 2 ^ i := Nat.pos_of_ne_zero (by simp)
          omega
        · exact h
      have HR := Lib.hid hr
      clear hr hat
      go_wp2_with fail
      go_ret
      exact ⟨R, rfl, HR.out, HB.out⟩
    · obtain ⟨hR0, hB1, hsum, hyes, hno⟩ := rt_round hat hB hk HN.out
      have hpw := fun w => power_any (R + B) k w (by unfold I64; omega) hk'
      have tB : 0 < B := by omega
      obtain ⟨C, hC⟩ : ∃ C : Nat, C = B / 2 := ⟨_, rfl⟩
      have eC : (B : Int) / 2 = (C : Int) := by omega
      rw [← hC] at hyes hno
      have hCB : C < B := by omega
      obtain ⟨Q, hQ⟩ : ∃ Q, Q = R + (B : Int) := ⟨_, rfl⟩
      have eQ : R + (B : Int) = Q := hQ.symm
      rw [← hQ] at hyes hno hpw hsum
      have hQ0 : 0 ≤ Q := by omega
      have hiff := powOk_iff (n := n) (x := Q) (k := k) HN.out hQ0
      have HQ0 := Lib.hid hQ0
      have HYES := Lib.hid hyes
      have HNO := Lib.hid hno
      have HCB := Lib.hid hCB
      clear hat hC hyes hno hQ hCB hQ0 hB
      unfold powOk at hiff
      by_cases hc : Q ^ k ≤ n
      · have hc2 := hiff.2 hc
        rw [Bool.and_eq_true] at hc2
        have hok := hc2.1
        rw [hok] at hpw
        simp only [if_true] at hpw
        have HA := Lib.hid (HYES.out hc)
        have tc := hc2.2
        clear hiff hc2 HYES HNO hok hc
        generalize Q ^ k = P at *
        have HP := Lib.hid hpw
        clear hpw
        go_wp2_with fail
        refine (HP.out _).mono ?_
        rintro e w1 ⟨he, hb1⟩
        subst he
        have HB1 := Lib.hid (HB.out.trans (hb1.mono HB.out.size))
        clear hb1
        go_wp2_with fail
        first
          | exact ⟨⟨Q, C, rfl, rfl, HA.out, HB1.out⟩, by have := HCB.out; simp [intOf]; omega⟩
          | (go_roundw
             case rel => exact ⟨Q, C, rfl, rfl, HA.out, HB1.out⟩
             case measure => have := HCB.out; simp [intOf]; omega)
      · have HA := Lib.hid (HNO.out hc)
        have tc : decide (Q ^ k ≤ n) = false := decide_eq_false hc
        clear hiff HYES HNO hc
        generalize Q ^ k = P at *
        obtain ⟨b, hbq⟩ : ∃ b, b = okB P := ⟨_, rfl⟩
        rw [← hbq] at hpw
        clear hbq
        cases b
        · simp only [Bool.false_eq_true, if_false] at hpw
          have HP := Lib.hid hpw
          clear hpw
          go_wp2_with fail
          refine (HP.out _).mono ?_
          rintro e w1 ⟨he, hb1⟩
          subst he
          have HB1 := Lib.hid (HB.out.trans (hb1.mono HB.out.size))
          clear hb1
          go_wp2_with fail
          first
            | exact ⟨⟨R, C, rfl, rfl, HA.out, HB1.out⟩, by have := HCB.out; simp [intOf]; omega⟩
            | (go_roundw
               case rel => exact ⟨R, C, rfl, rfl, HA.out, HB1.out⟩
               case measure => have := HCB.out; simp [intOf]; omega)
        · simp only [if_true] at hpw
          have HP := Lib.hid hpw
          clear hpw
          go_wp2_with fail
          refine (HP.out _).mono ?_
          rintro e w1 ⟨he, hb1⟩
          subst he
          have HB1 := Lib.hid (HB.out.trans (hb1.mono HB.out.size))
          clear hb1
          go_wp2_with fail
          first
            | exact ⟨⟨R, C, rfl, rfl, HA.out, HB1.out⟩, by have := HCB.out; simp [intOf]; omega⟩
            | (go_roundw
               case rel => exact ⟨R, C, rfl, rfl, HA.out, HB1.out⟩
               case measure => have := HCB.out; simp [intOf]; omega)
end Go.Proofs.YtmbcejldifobnaaDoor.Sp

namespace Go.Proofs.YtmbcejldifobnaaDoor.Sp
open Go.RowKit
theorem floor_any (x y : Int) (w : World) (hx : -4611686018427387904 ≤ x ∧ x ≤ 4611686018427387904) (hy : 1 ≤ y ∧ y ≤ 9223372036854775807) :
    Calls Tryd.prog 178 #[.int .i64 x, .int .i64 y] w fun e w' => e = .returned (.int .i64 (x / y)) ∧ w = w' := by
  have h := floor_of_trunc (x := x) (y := y) (by omega)
  have hb := ediv_le' (a := x) (y := y) (by omega)
  rw [← h] at hb ⊢
  have ht : (x.tdiv y).natAbs ≤ x.natAbs := by rw [Int.natAbs_tdiv]; exact Nat.div_le_self _ _
  have h0 : ¬ y = 0 := by omega
  have HT : -4611686018427387904 ≤ x.tdiv y ∧ x.tdiv y ≤ 4611686018427387904 := by omega
  clear h hb ht
  by_cases hm : x.tmod y < 0
  · rw [if_pos hm]
    go_enter Tryd.func178, Tryd.ntmps178
    go_wp2_with fail
    go_ret
    exact ⟨rfl, rfl⟩
  · rw [if_neg hm]
    go_enter Tryd.func178, Tryd.ntmps178
    go_wp2_with fail
    go_ret
    exact ⟨rfl, rfl⟩
theorem ceiling_any (x y : Int) (w : World) (hx : -4611686018427387904 ≤ x ∧ x ≤ 4611686018427387904) (hy : 1 ≤ y ∧ y ≤ 9223372036854775807) :
    Calls Tryd.prog 179 #[.int .i64 x, .int .i64 y] w fun e w' => e = .returned (.int .i64 (upI x y)) ∧ w = w' := by
  have h := fun w => floor_any (-x) y w (by omega) hy
  have hb := ediv_le' (a := -x) (y := y) (by omega)
  have HB : -4611686018427387904 ≤ -x / y ∧ -x / y ≤ 4611686018427387904 := by omega
  unfold upI
  have HF := Lib.hid h
  clear h hb
  generalize -x / y = q at *
  go_enter Tryd.func179, Tryd.ntmps179
  go_wp2_with fail
  refine (HF.out _).mono ?_
  rintro e w1 ⟨he, rfl⟩
  subst he
  go_wp2_with fail
  go_ret
  exact ⟨rfl, rfl⟩

end Go.Proofs.YtmbcejldifobnaaDoor.Sp

namespace Go.Proofs.YtmbcejldifobnaaDoor.Sp
open Go.RowKit
theorem okI {n : Int} (h : okB n = true) : I64 n := by rw [okB_iff] at h; unfold I64; omega
def mulW (a b : Int × Int) : (Int × Int) × Int := if examI [a, b] = 0 then prodsW a b 1 else ((0, 0), examI [a, b])
def scaleE (a : Int × Int) (num den : Int) : (Int × Int) × Int := if examI [a] = 0 then scaleW a num den else ((0, 0), examI [a])

set_option maxRecDepth 100000 in
set_option maxHeartbeats 1000000 in
theorem mul_any (a b : Int × Int) (w : World) (ha : I64 a.1 ∧ I64 a.2) (hb : I64 b.1 ∧ I64 b.2) :
    Calls Tryd.prog 189 #[ivV a, ivV b] w fun e w' => e = .returned (ivE (mulW a b)) ∧ Below w.heap.size w w' := by
  have hex := fun W n hn => exam2_at a b W n hn ha hb
  have hno : ¬ examI [a, b] = 0 → ivE (mulW a b) = .tuple #[.agg #[.int .i64 0, .int .i64 0], .int .i64 (examI [a, b])] := fun h => by unfold mulW; rw [if_neg h]; rfl
  have hyes : examI [a, b] = 0 → ∃ x y ee, ivE (mulW a b) = .tuple #[.agg #[.int .i64 x, .int .i64 y], .int .i64 ee] ∧ ∀ W, Calls Tryd.prog 192 #[ivV a, ivV b, .int .i64 1] W fun e' w' => e' = .returned (.tuple #[.agg #[.int .i64 x, .int .i64 y], .int .i64 ee]) ∧ Below W.heap.size W w' := fun h => by
    refine ⟨(mulW a b).1.1, (mulW a b).1.2, (mulW a b).2, rfl, fun W => ?_⟩
    unfold mulW
    rw [if_pos h]
    exact productsOver_any a b 1 W ha hb (by omega)
  clear ha hb
  have HEX := Lib.hid hex
  clear hex
  obtain ⟨er, her⟩ : ∃ er, er = examI [a, b] := ⟨_, rfl⟩
  rw [← her] at HEX hno hyes
  clear her
  generalize ivE (mulW a b) = R at *
  unfold ivV at *
  by_cases h0 : er = 0
  · subst h0
    obtain ⟨x, y, ee, rfl, hs⟩ := hyes rfl
    have HS := Lib.hid hs
    clear hno hyes hs
    go_enter Tryd.func189, Tryd.ntmps189
    go_wp2_with fail
    refine (HEX.out _ _ (by simp)).mono ?_
    rintro e w1 ⟨he, hb⟩
    subst he
    have F1 := Fm.of3 hb
    have c10 := F1.k0.c0
    have c11 := F1.k0.c1
    have c20 := F1.k1.c0
    have c21 := F1.k1.c1
    clear hb
    have F1' := Lib.hid F1
    clear F1
    go_wp2_with fail
    refine (HS.out _).mono ?_
    rintro e w2 ⟨he, hb⟩
    subst he
    have F2 := F1'.out.later hb
    obtain ⟨p, q, hr⟩ := F2.res
    have c30 := hr.c0
    have c31 := hr.c1
    have f30 := hr.f0
    have f31 := hr.f1
    have FB := Lib.hid F2
    clear hb F2 hr
    go_wp2_with fail
    refine bodyPost_ret (v := .tuple #[.agg #[.int .i64 x, .int .i64 y], .int .i64 ee]) (by simp [results, Tryd.results189, c30, c31, go_sem]) rfl ⟨rfl, (FB.out.set _ _).bl⟩
  · have q1 : (er == 0) = false := by simp [h0]
    have q2 : (er != 0) = true := by simp [h0]
    obtain rfl := hno h0
    clear hno hyes h0
    go_enter Tryd.func189, Tryd.ntmps189
    go_wp2_with fail
    refine (HEX.out _ _ (by simp)).mono ?_
    rintro e w1 ⟨he, hb⟩
    subst he
    have F1 := Fm.of3 hb
    obtain ⟨p, q, hr⟩ := F1.res
    have c30 := hr.c0
    have c31 := hr.c1
    have f30 := hr.f0
    have f31 := hr.f1
    have FB := Lib.hid F1
    clear hb F1 hr
    go_wp2_with fail
    refine bodyPost_ret (v := .tuple #[.agg #[.int .i64 0, .int .i64 0], .int .i64 er]) (by simp [results, Tryd.results189, c30, c31, go_sem]) rfl ⟨rfl, (FB.out.set _ _).bl⟩

end Go.Proofs.YtmbcejldifobnaaDoor.Sp

namespace Go.Proofs.YtmbcejldifobnaaDoor.Sp
open Go.RowKit
set_option maxRecDepth 100000 in
set_option maxHeartbeats 1000000 in
theorem scale_any (a : Int × Int) (num den : Int) (w : World) (ha : I64 a.1 ∧ I64 a.2) (hnum : I64 num) (hden : I64 den) :
    Calls Tryd.prog 176 #[ivV a, .int .i64 num, .int .i64 den] w fun e w' => e = .returned (ivE (scaleE a num den)) ∧ Below w.heap.size w w' := by
  have hex := fun W n hn => exam1_at a W n hn ha
  have hno : ¬ examI [a] = 0 → ivE (scaleE a num den) = .tuple #[.agg #[.int .i64 0, .int .i64 0], .int .i64 (examI [a])] := fun h => by unfold scaleE; rw [if_neg h]; rfl
  have hbad : examI [a] = 0 → (¬ (1 ≤ den ∧ okB den = true ∧ okB num = true)) → ivE (scaleE a num den) = .tuple #[.agg #[.int .i64 0, .int .i64 0], .int .i64 2] := fun h h' => by unfold scaleE; rw [if_pos h]; unfold scaleW; rw [if_neg h']; rfl
  have hyes : examI [a] = 0 → 1 ≤ den → okB den = true → okB num = true → ∃ x y ee, ivE (scaleE a num den) = .tuple #[.agg #[.int .i64 x, .int .i64 y], .int .i64 ee] ∧ ∀ W, Calls Tryd.prog 192 #[ivV a, .agg #[.int .i64 num, .int .i64 num], .int .i64 den] W fun e' w' => e' = .returned (.tuple #[.agg #[.int .i64 x, .int .i64 y], .int .i64 ee]) ∧ Below W.heap.size W w' := fun h h1 h2 h3 => by
    refine ⟨(scaleE a num den).1.1, (scaleE a num den).1.2, (scaleE a num den).2, rfl, fun W => ?_⟩
    unfold scaleE
    rw [if_pos h]
    unfold scaleW
    rw [if_pos ⟨h1, h2, h3⟩]
    exact productsOver_any a (num, num) den W ha ⟨hnum, hnum⟩ ⟨h1, by have := okB_iff.1 h2; omega⟩
  have ad := fun w => allowed_any den w hden
  have an := fun w => allowed_any num w hnum
  clear ha hnum hden
  have HEX := Lib.hid hex
  clear hex
  obtain ⟨er, her⟩ : ∃ er, er = examI [a] := ⟨_, rfl⟩
  rw [← her] at HEX hno hbad hyes
  clear her
  generalize ivE (scaleE a num den) = R at *
  unfold ivV at *
  obtain ⟨kd, hkd⟩ : ∃ k, k = okB den := ⟨_, rfl⟩
  obtain ⟨kn, hkn⟩ : ∃ k, k = okB num := ⟨_, rfl⟩
  rw [← hkd] at hbad hyes ad
  rw [← hkn] at hbad hyes an
  clear hkd hkn
  have HD := Lib.hid ad
  have HN := Lib.hid an
  clear ad an
  by_cases h0 : er = 0
  · subst h0
    by_cases h1 : 1 ≤ den
    · have t1 : decide (den < 1) = false := decide_eq_false (by omega)
      cases kd
      · obtain rfl := hbad rfl (by simp)
        clear hno hbad hyes h1
        go_enter Tryd.func176, Tryd.ntmps176
        go_wp2_with fail
        refine (HEX.out _ _ (by simp)).mono ?_
        rintro e w1 ⟨he, hb⟩
        subst he
        have F1 := Fm.of2 hb
        have c10 := F1.k0.c0
        have c11 := F1.k0.c1
        obtain ⟨p, q, hr⟩ := F1.res
        have c30 := hr.c0
        have c31 := hr.c1
        have f30 := hr.f0
        have f31 := hr.f1
        clear hb hr
        have FB := Lib.hid F1
        clear F1
        go_wp2_with fail
        refine (HD.out _).mono ?_
        rintro e wq ⟨he, hq⟩
        subst he hq
        go_wp2_with fail
        refine bodyPost_ret (v := .tuple #[.agg #[.int .i64 0, .int .i64 0], .int .i64 2]) (by simp [results, Tryd.results176, c30, c31, go_sem]) rfl ⟨rfl, (FB.out.set _ _).bl⟩
      · cases kn
        · obtain rfl := hbad rfl (by simp)
          clear hno hbad hyes h1
          go_enter Tryd.func176, Tryd.ntmps176
          go_wp2_with fail
          refine (HEX.out _ _ (by simp)).mono ?_
          rintro e w1 ⟨he, hb⟩
          subst he
          have F1 := Fm.of2 hb
          have c10 := F1.k0.c0
          have c11 := F1.k0.c1
          obtain ⟨p, q, hr⟩ := F1.res
          have c30 := hr.c0
          have c31 := hr.c1
          have f30 := hr.f0
          have f31 := hr.f1
          clear hb hr
          have FB := Lib.hid F1
          clear F1
          go_wp2_with fail
          refine (HD.out _).mono ?_
          rintro e wq ⟨he, hq⟩
          subst he hq
          go_wp2_with fail
          refine (HN.out _).mono ?_
          rintro e wq ⟨he, hq⟩
          subst he hq
          go_wp2_with fail
          refine bodyPost_ret (v := .tuple #[.agg #[.int .i64 0, .int .i64 0], .int .i64 2]) (by simp [results, Tryd.results176, c30, c31, go_sem]) rfl ⟨rfl, (FB.out.set _ _).bl⟩
        · obtain ⟨x, y, ee, rfl, hs⟩ := hyes rfl h1 rfl rfl
          have HS := Lib.hid hs
          clear hno hbad hyes hs h1
          go_enter Tryd.func176, Tryd.ntmps176
          go_wp2_with fail
          refine (HEX.out _ _ (by simp)).mono ?_
          rintro e w1 ⟨he, hb⟩
          subst he
          have F1 := Fm.of2 hb
          have c10 := F1.k0.c0
          have c11 := F1.k0.c1
          obtain ⟨p, q, hr⟩ := F1.res
          have c30 := hr.c0
          have c31 := hr.c1
          have f30 := hr.f0
          have f31 := hr.f1
          clear hb hr
          have FB := Lib.hid F1
          clear F1
          go_wp2_with fail
          refine (HD.out _).mono ?_
          rintro e wq ⟨he, hq⟩
          subst he hq
          go_wp2_with fail
          refine (HN.out _).mono ?_
          rintro e wq ⟨he, hq⟩
          subst he hq
          go_wp2_with fail
          refine (HS.out _).mono ?_
          rintro e w2 ⟨he, hb⟩
          subst he
          have F2 := FB.out.later hb
          clear c30 c31 f30 f31 FB
          obtain ⟨p2, q2, hr⟩ := F2.res
          have c30 := hr.c0
          have c31 := hr.c1
          have f30 := hr.f0
          have f31 := hr.f1
          have FB := Lib.hid F2
          clear hb F2 hr
          go_wp2_with fail
          refine bodyPost_ret (v := .tuple #[.agg #[.int .i64 x, .int .i64 y], .int .i64 ee]) (by simp [results, Tryd.results176, c30, c31, go_sem]) rfl ⟨rfl, (FB.out.set _ _).bl⟩
    · have t1 : decide (den < 1) = true := decide_eq_true (by omega)
      obtain rfl := hbad rfl (by omega)
      clear hno hbad hyes h1
      go_enter Tryd.func176, Tryd.ntmps176
      go_wp2_with fail
      refine (HEX.out _ _ (by simp)).mono ?_
      rintro e w1 ⟨he, hb⟩
      subst he
      have F1 := Fm.of2 hb
      have c10 := F1.k0.c0
      have c11 := F1.k0.c1
      obtain ⟨p, q, hr⟩ := F1.res
      have c30 := hr.c0
      have c31 := hr.c1
      have f30 := hr.f0
      have f31 := hr.f1
      clear hb hr
      have FB := Lib.hid F1
      clear F1
      go_wp2_with fail
      refine bodyPost_ret (v := .tuple #[.agg #[.int .i64 0, .int .i64 0], .int .i64 2]) (by simp [results, Tryd.results176, c30, c31, go_sem]) rfl ⟨rfl, (FB.out.set _ _).bl⟩
  · have q1 : (er == 0) = false := by simp [h0]
    have q2 : (er != 0) = true := by simp [h0]
    obtain rfl := hno h0
    clear hno hyes hbad h0
    go_enter Tryd.func176, Tryd.ntmps176
    go_wp2_with fail
    refine (HEX.out _ _ (by simp)).mono ?_
    rintro e w1 ⟨he, hb⟩
    subst he
    have F1 := Fm.of2 hb
    obtain ⟨p, q, hr⟩ := F1.res
    have c30 := hr.c0
    have c31 := hr.c1
    have f30 := hr.f0
    have f31 := hr.f1
    have FB := Lib.hid F1
    clear hb F1 hr
    go_wp2_with fail
    refine bodyPost_ret (v := .tuple #[.agg #[.int .i64 0, .int .i64 0], .int .i64 er]) (by simp [results, Tryd.results176, c30, c31, go_sem]) rfl ⟨rfl, (FB.out.set _ _).bl⟩

end Go.Proofs.YtmbcejldifobnaaDoor.Sp

namespace Go.Proofs.YtmbcejldifobnaaDoor.Sp
open Go.RowKit
def divE (a b : Int × Int) : (Int × Int) × Int := if examI [a, b] = 0 then divW a b else ((0, 0), examI [a, b])
theorem Fm.turn {w w' : World} {g g' r : Nat} {x y z u : Value} (h : Fm w [(g, x, y), (g', z, u)] r w') (hg : w.heap.size ≤ g) (hg' : w.heap.size ≤ g') (hne : g ≠ g') (p q s t : Value) :
    Fm w [(g, p, q), (g', s, t)] r ((((w'.setCell ⟨g, 0, none⟩ p).setCell ⟨g, 1, none⟩ q).setCell ⟨g', 0, none⟩ s).setCell ⟨g', 1, none⟩ t) := by
  have n1 : g ≠ r := h.ne (g, x, y) List.mem_cons_self
  have n2 : g' ≠ r := h.ne (g', z, u) (List.mem_cons_of_mem _ List.mem_cons_self)
  obtain ⟨p', q', hr⟩ := h.res
  refine ⟨?_, ?_, ⟨p', q', (((hr.setOther (Ne.symm n1) 0 p).setOther (Ne.symm n1) 1 q).setOther (Ne.symm n2) 0 s).setOther (Ne.symm n2) 1 t⟩, Below.set2 (Below.set2 h.bl g hg p q) g' hg' s t, h.hr⟩
  · intro v hv
    simp at hv
    rcases hv with rfl | rfl
    · exact ((h.k0.set p q).setOther hne 0 s).setOther hne 1 t
    · exact ((h.k1.setOther (Ne.symm hne) 0 p).setOther (Ne.symm hne) 1 q).set s t
  · intro v hv
    simp at hv
    rcases hv with rfl | rfl
    · exact n1
    · exact n2
theorem floor_g : ∀ (x y : Int) (w : World), (-4611686018427387904 ≤ x ∧ x ≤ 4611686018427387904) → (1 ≤ y ∧ y ≤ 9223372036854775807) →
    Calls Tryd.prog 178 #[.int .i64 x, .int .i64 y] w fun e w' => e = .returned (.int .i64 (x / y)) ∧ w = w' := fun x y w h1 h2 => floor_any x y w h1 h2
theorem ceiling_g : ∀ (x y : Int) (w : World), (-4611686018427387904 ≤ x ∧ x ≤ 4611686018427387904) → (1 ≤ y ∧ y ≤ 9223372036854775807) →
    Calls Tryd.prog 179 #[.int .i64 x, .int .i64 y] w fun e w' => e = .returned (.int .i64 (upI x y)) ∧ w = w' := fun x y w h1 h2 => ceiling_any x y w h1 h2
theorem minus_g : ∀ (x y : Int) (w : World), okB x = true → okB y = true →
    Calls Tryd.prog 177 #[.agg #[.int .i64 x, .int .i64 y]] w fun e w' => e = .returned (.agg #[.int .i64 (-y), .int .i64 (-x)]) ∧ Below w.heap.size w w' := fun x y w h1 h2 => minus_any (x, y) w h1 h2

set_option maxRecDepth 100000 in
set_option maxHeartbeats 1000000 in
theorem div_any (a b : Int × Int) (w : World) (ha : I64 a.1 ∧ I64 a.2) (hb : I64 b.1 ∧ I64 b.2) :
    Calls Tryd.prog 141 #[ivV a, ivV b] w fun e w' => e = .returned (ivE (divE a b)) ∧ Below w.heap.size w w' := by
  have hex := fun W n hn => exam2_at a b W n hn ha hb
  have hno : ¬ examI [a, b] = 0 → ivE (divE a b) = .tuple #[.agg #[.int .i64 0, .int .i64 0], .int .i64 (examI [a, b])] := fun h => by unfold divE; rw [if_neg h]; rfl
  have hyes : examI [a, b] = 0 → divE a b = divW a b ∧ okB a.1 = true ∧ okB a.2 = true ∧ a.1 ≤ a.2 ∧ okB b.1 = true ∧ okB b.2 = true ∧ b.1 ≤ b.2 := fun h => by
    have h1 := examI_ok h a (by simp)
    have h2 := examI_ok h b (by simp)
    refine ⟨?_, h1.1, h1.2.1, h1.2.2, h2⟩
    unfold divE; rw [if_pos h]
  clear ha hb
  have HEX := Lib.hid hex
  clear hex
  obtain ⟨er, her⟩ : ∃ er, er = examI [a, b] := ⟨_, rfl⟩
  rw [← her] at HEX hno hyes
  clear her
  by_cases h0 : er = 0
  · subst h0
    obtain ⟨hE, ka1, ka2, ka, kb1, kb2, kb⟩ := hyes rfl
    rw [hE]
    clear hno hyes hE
    obtain ⟨a1, a2⟩ := a
    obtain ⟨b1, b2⟩ := b
    simp only at ka1 ka2 ka kb1 kb2 kb HEX
    have MM := Lib.hid minus_g
    have FL := Lib.hid floor_g
    have CE := Lib.hid ceiling_g
    have A1 := okB_iff.1 ka1
    have A2 := okB_iff.1 ka2
    have B1 := okB_iff.1 kb1
    have B2 := okB_iff.1 kb2
    unfold ivV
    simp only
    by_cases hz : b1 ≤ 0 ∧ 0 ≤ b2
    · have hR : ivE (divW (a1, a2) (b1, b2)) = .tuple #[.agg #[.int .i64 0, .int .i64 0], .int .i64 9] := by unfold divW; rw [if_pos hz]; rfl
      rw [hR]
      have t1 : decide (b1 ≤ 0) = true := decide_eq_true hz.1
      have t2 : decide (0 ≤ b2) = true := decide_eq_true hz.2
      clear hR hz A1 A2 B1 B2 ka kb
      go_enter Tryd.func141, Tryd.ntmps141
      go_wp2_with fail
      refine (HEX.out _ _ (by simp)).mono ?_
      rintro e w1 ⟨he, hb⟩
      subst he
      have F1 := Fm.of3 hb
      have c10 := F1.k0.c0
      have c11 := F1.k0.c1
      have c20 := F1.k1.c0
      have c21 := F1.k1.c1
      obtain ⟨p, q, hr⟩ := F1.res
      have c30 := hr.c0
      have c31 := hr.c1
      have f30 := hr.f0
      have f31 := hr.f1
      clear hb hr
      have FB := Lib.hid F1
      clear F1
      go_wp2_with fail
      refine bodyPost_ret (v := .tuple #[.agg #[.int .i64 0, .int .i64 0], .int .i64 9]) (by simp [results, Tryd.results141, c30, c31, go_sem]) rfl ⟨rfl, (FB.out.set _ _).bl⟩
    · by_cases hn : b2 < 0
      · have hR : ivE (divW (a1, a2) (b1, b2)) = .tuple #[.agg #[.int .i64 (min (-a2 / -b2) (-a2 / -b1)), .int .i64 (max (upI (-a1) (-b2)) (upI (-a1) (-b1)))], .int .i64 0] := by unfold divW; rw [if_neg hz, if_pos hn]; rfl
        rw [hR]
        have t1 : b1 ≤ 0 := by omega
        have t2 : decide (0 ≤ b2) = false := decide_eq_false (by omega)
        have t3 : b2 < 0 := hn
        clear hR hz hn
        go_enter Tryd.func141, Tryd.ntmps141
        go_wp2_with fail
        refine (HEX.out _ _ (by simp)).mono ?_
        rintro e w1 ⟨he, hb⟩
        subst he
        have F1 := Fm.of3 hb
        have c10 := F1.k0.c0
        have c11 := F1.k0.c1
        have c20 := F1.k1.c0
        have c21 := F1.k1.c1
        obtain ⟨p, q, hr⟩ := F1.res
        have c30 := hr.c0
        have c31 := hr.c1
        have f30 := hr.f0
        have f31 := hr.f1
        clear hb hr
        go_wp2_with fail
        go_region_with (first
          | (go_at_call 177; refine Calls.mono (MM.out _ _ _ (by assumption) (by assumption)) ?_; rintro e w2 ⟨he, hb2⟩; subst he; have hS := Fm.later (by first | assumption | exact Fm.drew ‹_›) hb2; have c1 := hS.k0.c0; have c2 := hS.k0.c1; have c3 := hS.k1.c0; have c4 := hS.k1.c1; have f1 := hS.k0.f0; have f2 := hS.k0.f1; have f3 := hS.k1.f0; have f4 := hS.k1.f1)
          | fail)
        all_goals
          have G1 := hS.turn (Nat.le_refl _) (Nat.le_add_right _ 1) (by omega) (.int .i64 (-a2)) (.int .i64 (-a1)) (.int .i64 (-b2)) (.int .i64 (-b1))
          clear c1 c2 c3 c4 f1 f2 f3 f4 hS F1 c10 c11 c20 c21 c30 c31 f30 f31
          generalize ((((w2.setCell ⟨w.heap.size, 0, none⟩ (.int .i64 (-a2))).setCell ⟨w.heap.size, 1, none⟩ (.int .i64 (-a1))).setCell ⟨w.heap.size + 1, 0, none⟩ (.int .i64 (-b2))).setCell ⟨w.heap.size + 1, 1, none⟩ (.int .i64 (-b1))) = w7 at *
          have c10 := G1.k0.c0
          have c11 := G1.k0.c1
          have c20 := G1.k1.c0
          have c21 := G1.k1.c1
          go_wp2_with fail
          go_quiet ((go_at_call 178; exact Calls.quiet_of_same ((FL.out _ _ _ (by omega) (by omega)).mono (fun e w' h => ⟨h.1, h.2.symm⟩))))
          have G2 := G1.drewN nq
          clear G1 c10 c11 c20 c21
          generalize w7.drewN nq = w8 at *
          have c10 := G2.k0.c0
          have c11 := G2.k0.c1
          have c20 := G2.k1.c0
          have c21 := G2.k1.c1
          go_wp2_with fail
          go_quiet ((go_at_call 179; exact Calls.quiet_of_same ((CE.out _ _ _ (by omega) (by omega)).mono (fun e w' h => ⟨h.1, h.2.symm⟩))))
          have G3 := G2.drewN nq
          clear G2 c10 c11 c20 c21
          generalize w8.drewN nq = w9 at *
          obtain ⟨p, q, hr⟩ := G3.res
          have c30 := hr.c0
          have c31 := hr.c1
          have f30 := hr.f0
          have f31 := hr.f1
          have FB := Lib.hid G3
          clear hr G3
          go_wp2_with fail
          refine bodyPost_ret (v := .tuple #[.agg #[.int .i64 (min (-a2 / -b2) (-a2 / -b1)), .int .i64 (max (upI (-a1) (-b2)) (upI (-a1) (-b1)))], .int .i64 0]) (by simp [results, Tryd.results141, c30, c31, go_sem]) rfl ⟨rfl, (FB.out.set _ _).bl⟩
      · have hR : ivE (divW (a1, a2) (b1, b2)) = .tuple #[.agg #[.int .i64 (min (a1 / b1) (a1 / b2)), .int .i64 (max (upI a2 b1) (upI a2 b2))], .int .i64 0] := by unfold divW; rw [if_neg hz, if_neg hn]; rfl
        rw [hR]
        have t1 : 0 < b1 := by omega
        have t3 : 0 ≤ b2 := by omega
        clear hR hz hn
        go_enter Tryd.func141, Tryd.ntmps141
        go_wp2_with fail
        refine (HEX.out _ _ (by simp)).mono ?_
        rintro e w1 ⟨he, hb⟩
        subst he
        have F1 := Fm.of3 hb
        have c10 := F1.k0.c0
        have c11 := F1.k0.c1
        have c20 := F1.k1.c0
        have c21 := F1.k1.c1
        obtain ⟨p, q, hr⟩ := F1.res
        have c30 := hr.c0
        have c31 := hr.c1
        have f30 := hr.f0
        have f31 := hr.f1
        clear hb hr
        go_wp2_with fail
        clear c30 c31 f30 f31
        go_quiet ((go_at_call 178; exact Calls.quiet_of_same ((FL.out _ _ _ (by omega) (by omega)).mono (fun e w' h => ⟨h.1, h.2.symm⟩))))
        have G2 := F1.drewN nq
        clear F1 c10 c11 c20 c21
        generalize w1.drewN nq = w8 at *
        have c10 := G2.k0.c0
        have c11 := G2.k0.c1
        have c20 := G2.k1.c0
        have c21 := G2.k1.c1
        go_wp2_with fail
        go_quiet ((go_at_call 179; exact Calls.quiet_of_same ((CE.out _ _ _ (by omega) (by omega)).mono (fun e w' h => ⟨h.1, h.2.symm⟩))))
        have G3 := G2.drewN nq
        clear G2 c10 c11 c20 c21
        generalize w8.drewN nq = w9 at *
        obtain ⟨p, q, hr⟩ := G3.res
        have c30 := hr.c0
        have c31 := hr.c1
        have f30 := hr.f0
        have f31 := hr.f1
        have FB := Lib.hid G3
        clear hr G3
        go_wp2_with fail
        refine bodyPost_ret (v := .tuple #[.agg #[.int .i64 (min (a1 / b1) (a1 / b2)), .int .i64 (max (upI (a2) (b1)) (upI (a2) (b2)))], .int .i64 0]) (by simp [results, Tryd.results141, c30, c31, go_sem]) rfl ⟨rfl, (FB.out.set _ _).bl⟩
  · have hR := hno h0
    rw [hR]
    clear hyes hR hno
    unfold ivV
    have q1 : (er == 0) = false := by simp [h0]
    have q2 : (er != 0) = true := by simp [h0]
    clear h0
    go_enter Tryd.func141, Tryd.ntmps141
    go_wp2_with fail
    refine (HEX.out _ _ (by simp)).mono ?_
    rintro e w1 ⟨he, hb⟩
    subst he
    have F1 := Fm.of3 hb
    obtain ⟨p, q, hr⟩ := F1.res
    have c30 := hr.c0
    have c31 := hr.c1
    have f30 := hr.f0
    have f31 := hr.f1
    have FB := Lib.hid F1
    clear hb F1 hr
    go_wp2_with fail
    refine bodyPost_ret (v := .tuple #[.agg #[.int .i64 0, .int .i64 0], .int .i64 er]) (by simp [results, Tryd.results141, c30, c31, go_sem]) rfl ⟨rfl, (FB.out.set _ _).bl⟩
end Go.Proofs.YtmbcejldifobnaaDoor.Sp

namespace Go.Proofs.YtmbcejldifobnaaDoor.Sp
open Go.RowKit
/-- What Root returns: the root of the lower bound, and the least number whose power is at least the upper one. -/
def RootAt (a : Int × Int) (k : Nat) (r : (Int × Int) × Int) : Prop := ∃ lo hi, IsRoot a.1 lo k ∧ IsRoot a.2 hi k ∧ r = ((lo, if hi ^ k < a.2 then hi + 1 else hi), 0)
set_option maxRecDepth 100000 in
set_option maxHeartbeats 2000000 in
theorem root_fn_any (a : Int × Int) (k : Int) (w : World) (ha : I64 a.1 ∧ I64 a.2) (hk : I64 k) :
    Calls Tryd.prog 191 #[ivV a, .int .i64 k] w fun e w' => ∃ r, e = .returned (ivE r) ∧ Below w.heap.size w w' ∧
      (¬ examI [a] = 0 → r = ((0, 0), examI [a])) ∧ (examI [a] = 0 → (k < 1 ∨ 62 < k) → r = ((0, 0), 2)) ∧ (examI [a] = 0 → 1 ≤ k → k ≤ 62 → a.1 < 0 → r = ((0, 0), 9)) ∧ (examI [a] = 0 → 1 ≤ k → k ≤ 62 → 0 ≤ a.1 → RootAt a k.toNat r) := by
  have hex := fun W n hn => exam1_at a W n hn ha
  have HEX := Lib.hid hex
  clear hex ha
  by_cases h0 : examI [a] = 0
  · have h1 := examI_ok h0 a (by simp)
    rw [h0] at HEX
    by_cases hk0 : k < 1
    · refine Calls.mono (R := fun e w' => e = .returned (ivE ((0, 0), 2)) ∧ Below w.heap.size w w') ?_ (fun e w' h => ⟨_, h.1, h.2, fun h => absurd h0 h, fun _ _ => rfl, fun _ h => by omega, fun _ h => by omega⟩)
      have t1 : decide (k < 1) = true := decide_eq_true hk0
      clear h1 hk0 h0 hk
      show Calls _ _ _ w fun e w' => e = .returned (.tuple #[.agg #[.int .i64 0, .int .i64 0], .int .i64 2]) ∧ _
      unfold ivV
      go_enter Tryd.func191, Tryd.ntmps191
      go_wp2_with fail
      refine (HEX.out _ _ (by simp)).mono ?_
      rintro e w1 ⟨he, hb⟩
      subst he
      have F1 := Fm.of2 hb
      have c10 := F1.k0.c0
      have c11 := F1.k0.c1
      obtain ⟨p, q, hr⟩ := F1.res
      have c30 := hr.c0
      have c31 := hr.c1
      have f30 := hr.f0
      have f31 := hr.f1
      clear hb hr
      have FB := Lib.hid F1
      clear F1
      go_wp2_with fail
      refine bodyPost_ret (v := .tuple #[.agg #[.int .i64 0, .int .i64 0], .int .i64 2]) (by simp [results, Tryd.results191, c30, c31, go_sem]) rfl ⟨rfl, (FB.out.set _ _).bl⟩
    · have t1 : decide (k < 1) = false := decide_eq_false hk0
      by_cases hk6 : 62 < k
      · refine Calls.mono (R := fun e w' => e = .returned (ivE ((0, 0), 2)) ∧ Below w.heap.size w w') ?_ (fun e w' h => ⟨_, h.1, h.2, fun h => absurd h0 h, fun _ _ => rfl, fun _ _ h => by omega, fun _ _ h => by omega⟩)
        have t2 : decide (62 < k) = true := decide_eq_true hk6
        clear h1 hk0 h0 hk
        show Calls _ _ _ w fun e w' => e = .returned (.tuple #[.agg #[.int .i64 0, .int .i64 0], .int .i64 2]) ∧ _
        unfold ivV
        go_enter Tryd.func191, Tryd.ntmps191
        go_wp2_with fail
        refine (HEX.out _ _ (by simp)).mono ?_
        rintro e w1 ⟨he, hb⟩
        subst he
        have F1 := Fm.of2 hb
        have c10 := F1.k0.c0
        have c11 := F1.k0.c1
        obtain ⟨p, q, hr⟩ := F1.res
        have c30 := hr.c0
        have c31 := hr.c1
        have f30 := hr.f0
        have f31 := hr.f1
        clear hb hr
        have FB := Lib.hid F1
        clear F1
        go_wp2_with fail
        refine bodyPost_ret (v := .tuple #[.agg #[.int .i64 0, .int .i64 0], .int .i64 2]) (by simp [results, Tryd.results191, c30, c31, go_sem]) rfl ⟨rfl, (FB.out.set _ _).bl⟩
      · have t2 : decide (62 < k) = false := decide_eq_false hk6
        by_cases hn : a.1 < 0
        · refine Calls.mono (R := fun e w' => e = .returned (ivE ((0, 0), 9)) ∧ Below w.heap.size w w') ?_ (fun e w' h => ⟨_, h.1, h.2, fun h => absurd h0 h, fun _ h => by omega, fun _ _ _ _ => rfl, fun _ _ _ h => by omega⟩)
          have t3 : decide (a.1 < 0) = true := decide_eq_true hn
          clear h1 hk0 h0 hk hk6
          show Calls _ _ _ w fun e w' => e = .returned (.tuple #[.agg #[.int .i64 0, .int .i64 0], .int .i64 9]) ∧ _
          unfold ivV
          go_enter Tryd.func191, Tryd.ntmps191
          go_wp2_with fail
          refine (HEX.out _ _ (by simp)).mono ?_
          rintro e w1 ⟨he, hb⟩
          subst he
          have F1 := Fm.of2 hb
          have c10 := F1.k0.c0
          have c11 := F1.k0.c1
          obtain ⟨p, q, hr⟩ := F1.res
          have c30 := hr.c0
          have c31 := hr.c1
          have f30 := hr.f0
          have f31 := hr.f1
          clear hb hr
          have FB := Lib.hid F1
          clear F1
          go_wp2_with fail
          refine bodyPost_ret (v := .tuple #[.agg #[.int .i64 0, .int .i64 0], .int .i64 9]) (by simp [results, Tryd.results191, c30, c31, go_sem]) rfl ⟨rfl, (FB.out.set _ _).bl⟩
        · have t3 : decide (a.1 < 0) = false := decide_eq_false hn
          obtain ⟨k, rfl⟩ := Int.eq_ofNat_of_zero_le (show 0 ≤ k by omega)
          refine Calls.mono (R := fun e w' => ∃ lo hi hj, e = .returned (.tuple #[.agg #[.int .i64 lo, .int .i64 hj], .int .i64 0]) ∧ Below w.heap.size w w' ∧ IsRoot a.1 lo k ∧ IsRoot a.2 hi k ∧ hj = if hi ^ k < a.2 then hi + 1 else hi) ?_
            (fun e w' ⟨lo, hi, hj, h1, h2, h3, h4, h5⟩ => ⟨((lo, hj), 0), h1, h2, fun h => absurd h0 h, fun _ h => by omega, fun _ _ _ h => by omega, fun _ _ _ _ => ⟨lo, hi, h3, h4, by rw [h5]; rfl⟩⟩)
          obtain ⟨x, y⟩ := a
          simp only at h1 HEX hn t3 ⊢
          have e1 := okB_iff.1 h1.1
          have e2 := okB_iff.1 h1.2.1
          have hr1 := fun w => root_any x k w (by omega) (by omega) (by omega) (by omega)
          have hr2 := fun w => root_any y k w (by omega) (by omega) (by omega) (by omega)
          have hpw := fun hi (h0 : 0 ≤ hi) (h2 : hi ≤ 4611686018427387904) w => power_any hi k w (by unfold I64; omega) (by omega)
          have hk1 : 1 ≤ k := by omega
          have HR1 := Lib.hid hr1
          have HR2 := Lib.hid hr2
          have HPW := Lib.hid hpw
          have HK1 := Lib.hid hk1
          have E2 := Lib.hid e2
          clear hr1 hr2 hpw h0 h1 hk0 hk6 hn hk hk1 e1 e2
          unfold ivV
          simp only
          go_enter Tryd.func191, Tryd.ntmps191
          go_wp2_with fail
          refine (HEX.out _ _ (by simp)).mono ?_
          rintro e w1 ⟨he, hb⟩
          subst he
          have F1 := Fm.of2 hb
          have c10 := F1.k0.c0
          have c11 := F1.k0.c1
          obtain ⟨p, q, hr⟩ := F1.res
          have c30 := hr.c0
          have c31 := hr.c1
          have f30 := hr.f0
          have f31 := hr.f1
          clear hb hr
          have FB := Lib.hid F1
          clear F1
          go_wp2_with fail
          refine (HR2.out _).mono ?_
          rintro e u1 ⟨hi, he, hir, hb⟩
          subst he
          have G1 := FB.out.later hb
          clear FB c10 c11 c30 c31 f30 f31 hb
          have c10 := G1.k0.c0
          have c11 := G1.k0.c1
          have hi0 := hir.1
          have hiu := root_le hir.1 HK1.out hir.2.1 E2.out.2
          have hpi : okB (hi ^ k) = true := by
            have h1 := hir.2.1
            have h2 : 0 ≤ hi ^ k := Int.pow_nonneg hir.1
            have := E2.out
            exact okB_of (by omega)
          have hp1 := HPW.out hi hi0 hiu
          rw [hpi] at hp1
          simp only [if_true] at hp1
          have HP1 := Lib.hid hp1
          have HIR := Lib.hid hir
          have FB := Lib.hid G1
          clear G1 hp1 hir hpi HPW
          go_wp2_with fail
          refine (HP1.out _).mono ?_
          rintro e u2 ⟨he, hb⟩
          subst he
          have G1 := FB.out.later hb
          clear FB c10 c11 hb
          have c10 := G1.k0.c0
          have c11 := G1.k0.c1
          have FB := Lib.hid G1
          clear G1
          by_cases hc : hi ^ k < y
          · have tc : decide (hi ^ k < y) = true := decide_eq_true hc
            have HC := Lib.hid hc
            clear hc
            generalize hP : hi ^ k = P at *
            have HPE := Lib.hid hP
            clear hP
            go_wp2_with fail
            refine (HR1.out _).mono ?_
            rintro e u3 ⟨lo, he, hlr, hb⟩
            subst he
            have G1 := FB.out.later hb
            clear FB c10 c11 hb
            obtain ⟨p, q, hr⟩ := G1.res
            have c30 := hr.c0
            have c31 := hr.c1
            have f30 := hr.f0
            have f31 := hr.f1
            have FB := Lib.hid G1
            have HLR := Lib.hid hlr
            clear G1 hr hlr
            go_wp2_with fail
            refine bodyPost_ret (v := .tuple #[.agg #[.int .i64 lo, .int .i64 (hi + 1)], .int .i64 0]) (by simp [results, Tryd.results191, c30, c31, go_sem]) rfl ⟨lo, hi, hi + 1, rfl, (FB.out.set _ _).bl, HLR.out, HIR.out, ?_⟩
            rw [HPE.out, if_pos HC.out]
          · have tc : decide (hi ^ k < y) = false := decide_eq_false hc
            have HC := Lib.hid hc
            clear hc
            generalize hP : hi ^ k = P at *
            have HPE := Lib.hid hP
            clear hP
            go_wp2_with fail
            refine (HR1.out _).mono ?_
            rintro e u3 ⟨lo, he, hlr, hb⟩
            subst he
            have G1 := FB.out.later hb
            clear FB c10 c11 hb
            obtain ⟨p, q, hr⟩ := G1.res
            have c30 := hr.c0
            have c31 := hr.c1
            have f30 := hr.f0
            have f31 := hr.f1
            have FB := Lib.hid G1
            have HLR := Lib.hid hlr
            clear G1 hr hlr
            go_wp2_with fail
            refine bodyPost_ret (v := .tuple #[.agg #[.int .i64 lo, .int .i64 hi], .int .i64 0]) (by simp [results, Tryd.results191, c30, c31, go_sem]) rfl ⟨lo, hi, hi, rfl, (FB.out.set _ _).bl, HLR.out, HIR.out, ?_⟩
            rw [HPE.out, if_neg (by have := HC.out; omega)]
  · refine Calls.mono (R := fun e w' => e = .returned (ivE ((0, 0), examI [a])) ∧ Below w.heap.size w w') ?_ (fun e w' h => ⟨_, h.1, h.2, fun _ => rfl, fun h => absurd h h0, fun h => absurd h h0, fun h => absurd h h0⟩)
    show Calls _ _ _ w fun e w' => e = .returned (.tuple #[.agg #[.int .i64 0, .int .i64 0], .int .i64 (examI [a])]) ∧ _
    clear hk
    unfold ivV
    generalize examI [a] = er at *
    have q1 : (er == 0) = false := by simp [h0]
    have q2 : (er != 0) = true := by simp [h0]
    clear h0
    go_enter Tryd.func191, Tryd.ntmps191
    go_wp2_with fail
    refine (HEX.out _ _ (by simp)).mono ?_
    rintro e w1 ⟨he, hb⟩
    subst he
    have F1 := Fm.of2 hb
    have c10 := F1.k0.c0
    have c11 := F1.k0.c1
    obtain ⟨p, q, hr⟩ := F1.res
    have c30 := hr.c0
    have c31 := hr.c1
    have f30 := hr.f0
    have f31 := hr.f1
    clear hb hr
    have FB := Lib.hid F1
    clear F1
    go_wp2_with fail
    refine bodyPost_ret (v := .tuple #[.agg #[.int .i64 0, .int .i64 0], .int .i64 er]) (by simp [results, Tryd.results191, c30, c31, go_sem]) rfl ⟨rfl, (FB.out.set _ _).bl⟩
end Go.Proofs.YtmbcejldifobnaaDoor.Sp

namespace Go.Proofs.YtmbcejldifobnaaDoor.Ln
open Sp
theorem ok_far {n : Int} (h1 : -4611686018427387904 ≤ n) (h2 : n ≤ 4611686018427387904) : okB n = true := okB_iff.2 ⟨h1, h2⟩
def Mid (a : Int × Int) : Prop := 0 ≤ a.1 ∧ a.1 ≤ a.2 ∧ a.2 ≤ 2000000000000
theorem Mid.ex1 {a : Int × Int} (h : Mid a) : examI [a] = 0 := by
  obtain ⟨h1, h2, h3⟩ := h
  refine examI_of (fun x hx => ?_)
  rw [List.mem_singleton] at hx; subst hx
  exact ⟨ok_far (by omega) (by omega), ok_far (by omega) (by omega), h2⟩
theorem Mid.ex2 {a b : Int × Int} (h : Mid a) (g : Mid b) : examI [a, b] = 0 := by
  obtain ⟨h1, h2, h3⟩ := h
  obtain ⟨g1, g2, g3⟩ := g
  refine examI_of (fun x hx => ?_)
  rcases List.mem_cons.1 hx with rfl | hx
  · exact ⟨ok_far (by omega) (by omega), ok_far (by omega) (by omega), h2⟩
  · rw [List.mem_singleton] at hx; subst hx
    exact ⟨ok_far (by omega) (by omega), ok_far (by omega) (by omega), g2⟩
theorem add_mid {a b : Int × Int} (h : Mid a) (g : Mid b) : addW a b = ((a.1 + b.1, a.2 + b.2), 0) := by
  have e := Mid.ex2 h g
  obtain ⟨h1, h2, h3⟩ := h
  obtain ⟨g1, g2, g3⟩ := g
  unfold addW; rw [if_pos e, spanW_ok (ok_far (by omega) (by omega)) (ok_far (by omega) (by omega))]
theorem sub_mid {a b : Int × Int} (h : Mid a) (g : Mid b) : subW a b = ((a.1 - b.2, a.2 - b.1), 0) := by
  have e := Mid.ex2 h g
  obtain ⟨h1, h2, h3⟩ := h
  obtain ⟨g1, g2, g3⟩ := g
  unfold subW; rw [if_pos e, spanW_ok (ok_far (by omega) (by omega)) (ok_far (by omega) (by omega))]
theorem div_mid {a b : Int × Int} (h : Mid a) (g : Mid b) (g0 : 1 ≤ b.1) : divE a b = ((a.1 / b.2, upI a.2 b.1), 0) := by
  have e := Mid.ex2 h g
  obtain ⟨h1, h2, h3⟩ := h
  obtain ⟨g1, g2, g3⟩ := g
  unfold divE; rw [if_pos e]; unfold divW
  rw [if_neg (by omega), if_neg (by omega), quot_pos h1 (by omega) g0 g2]
theorem scale_mid {a : Int × Int} {n d : Int} (h : Mid a) (hn : 0 ≤ n) (hn2 : n ≤ 1000000) (hd : 1 ≤ d) (hd2 : d ≤ 1000000) : scaleE a n d = ((a.1 * n / d, upI (a.2 * n) d), 0) := by
  have e := Mid.ex1 h
  obtain ⟨h1, h2, h3⟩ := h
  unfold scaleE; rw [if_pos e]; unfold scaleW
  rw [if_pos ⟨hd, ok_far (by omega) (by omega), ok_far (by omega) (by omega)⟩]
  unfold prodsW
  obtain ⟨e1, e2⟩ := minW_pos (a := a) (b := (n, n)) h1 h2 hn (Int.le_refl _)
  have b1 : 0 ≤ a.1 * n := Int.mul_nonneg h1 hn
  have b2 : a.1 * n ≤ a.2 * n := Int.mul_le_mul_of_nonneg_right h2 hn
  have b3 : a.2 * n ≤ 2000000000000 * 1000000 := Int.mul_le_mul h3 hn2 hn (by omega)
  rw [e1, e2]
  show spanW (a.1 * n / d) (upI (a.2 * n) d) = _
  have u1 := ediv_le_self b1 hd
  have u2 := Int.ediv_nonneg b1 (show 0 ≤ d by omega)
  have u3 := up_le_self (show 0 ≤ a.2 * n by omega) hd
  have u4 := up_nonneg (show 0 ≤ a.2 * n by omega) (show 0 < d by omega)
  generalize a.1 * n / d = p at *
  generalize upI (a.2 * n) d = q at *
  rw [spanW_ok (ok_far (by omega) (by omega)) (ok_far (by omega) (by omega))]
theorem mul_mid {a b : Int × Int} (h : Mid a) (g : Mid b) (hb : a.2 * b.2 ≤ 4000000000000000000) : mulW a b = ((a.1 * b.1, a.2 * b.2), 0) := by
  have e := Mid.ex2 h g
  obtain ⟨h1, h2, h3⟩ := h
  obtain ⟨g1, g2, g3⟩ := g
  unfold mulW; rw [if_pos e]; unfold prodsW
  obtain ⟨e1, e2⟩ := minW_pos h1 h2 g1 g2
  have b1 : 0 ≤ a.1 * b.1 := Int.mul_nonneg h1 g1
  have b2 : a.1 * b.1 ≤ a.2 * b.2 := Int.mul_le_mul h2 g2 g1 (by omega)
  rw [e1, e2, Int.ediv_one, upI_one, spanW_ok (ok_far (by omega) (by omega)) (ok_far (by omega) (by omega))]

def limE (c : (Int × Int) × Int) (lo hi e : Int) : (Int × Int) × Int := if c.2 = 0 ∧ ¬ (lo ≤ c.1.1 ∧ c.1.1 ≤ c.1.2 ∧ c.1.2 ≤ hi) then ((0, 0), e) else c
def withE (f : Int × Int → Int × Int → (Int × Int) × Int) (c d : (Int × Int) × Int) : (Int × Int) × Int := if c.2 = 0 then (if d.2 = 0 then f c.1 d.1 else ((0, 0), d.2)) else ((0, 0), c.2)
def thruE (f : Int × Int → (Int × Int) × Int) (c : (Int × Int) × Int) : (Int × Int) × Int := if c.2 = 0 then f c.1 else c
/-- What Root gives for 2. -/
def Rt2 (a : Int × Int) (r : (Int × Int) × Int) : Prop := (¬ examI [a] = 0 → r = ((0, 0), examI [a])) ∧ (examI [a] = 0 → a.1 < 0 → r = ((0, 0), 9)) ∧ (examI [a] = 0 → 0 ≤ a.1 → RootAt a 2 r)
noncomputable def rt2 (a : Int × Int) : (Int × Int) × Int := Classical.epsilon (Rt2 a)
theorem isRoot_uniq {n r s : Int} {k : Nat} (h : IsRoot n r k) (g : IsRoot n s k) : r = s := by
  obtain ⟨h1, h2, h3⟩ := h
  obtain ⟨g1, g2, g3⟩ := g
  have mono : ∀ {x y : Int}, 0 ≤ x → x ≤ y → x ^ k ≤ y ^ k := fun {x y} hx hxy => by
    induction k with
    | zero => simp
    | succ k ih =>
      rw [Int.pow_succ, Int.pow_succ]
      have hp : ∀ m : Nat, 0 ≤ x ^ m := fun m => Int.pow_nonneg hx
      have ih' : ∀ m : Nat, x ^ m ≤ y ^ m := fun m => by
        induction m with
        | zero => simp
        | succ m im => rw [Int.pow_succ, Int.pow_succ]; exact Int.mul_le_mul im hxy hx (Int.le_trans (hp m) im)
      exact Int.mul_le_mul (ih' k) hxy hx (Int.le_trans (hp k) (ih' k))
  rcases Int.lt_trichotomy r s with e | e | e
  · have := mono (show 0 ≤ r + 1 by omega) (show r + 1 ≤ s by omega); omega
  · exact e
  · have := mono (show 0 ≤ s + 1 by omega) (show s + 1 ≤ r by omega); omega
theorem rt2_uniq {a : Int × Int} {r s : (Int × Int) × Int} (h : Rt2 a r) (g : Rt2 a s) : r = s := by
  by_cases h0 : examI [a] = 0
  · by_cases h1 : a.1 < 0
    · rw [h.2.1 h0 h1, g.2.1 h0 h1]
    · obtain ⟨l, u, hl, hu, e⟩ := h.2.2 h0 (by omega)
      obtain ⟨l', u', hl', hu', e'⟩ := g.2.2 h0 (by omega)
      rw [e, e', isRoot_uniq hl hl', isRoot_uniq hu hu']
  · rw [h.1 h0, g.1 h0]
theorem rt2_eq {a : Int × Int} {r : (Int × Int) × Int} (h : Rt2 a r) : r = rt2 a := rt2_uniq h (Classical.epsilon_spec (p := Rt2 a) ⟨r, h⟩)
end Go.Proofs.YtmbcejldifobnaaDoor.Ln

namespace Go.Proofs.YtmbcejldifobnaaDoor.Ln
open Sp
def part (k : Int) : Int := if k = 2 then 250 else 500
def endN (k : Int) : Int := if k = 2 then 0 else 30665
def inB (n lo hi : Int) : Bool := decide (lo ≤ n) && decide (n ≤ hi)
theorem inB_iff {n lo hi : Int} : inB n lo hi = true ↔ lo ≤ n ∧ n ≤ hi := by unfold inB; rw [Bool.and_eq_true, decide_eq_true_eq, decide_eq_true_eq]
def bdB (k B T M C : Int) : Bool := inB k 1 3 && (inB B 1000 500000 && ((if k = 3 then inB T 1000 (B - 1) else decide (T = B)) && (inB M 1 (4 * B) && inB C 1 (4 * B))))
theorem bdB_iff {k B T M C : Int} : bdB k B T M C = true ↔ (1 ≤ k ∧ k ≤ 3) ∧ (1000 ≤ B ∧ B ≤ 500000) ∧ (if k = 3 then 1000 ≤ T ∧ T ≤ B - 1 else T = B) ∧ (1 ≤ M ∧ M ≤ 4 * B) ∧ (1 ≤ C ∧ C ≤ 4 * B) := by
  unfold bdB
  by_cases h : k = 3
  · rw [if_pos h, if_pos h, Bool.and_eq_true, Bool.and_eq_true, Bool.and_eq_true, Bool.and_eq_true, inB_iff, inB_iff, inB_iff, inB_iff, inB_iff]
  · rw [if_neg h, if_neg h, Bool.and_eq_true, Bool.and_eq_true, Bool.and_eq_true, Bool.and_eq_true, inB_iff, inB_iff, inB_iff, inB_iff, decide_eq_true_eq]
noncomputable def mouthE (B M C : Int) : (Int × Int) × Int := withE divE (thruE (fun a => scaleE a 575 1000) (withE mulW ((B, B), 0) ((B, B), 0))) (thruE rt2 (withE mulW ((M, M), 0) ((C, C), 0)))
def endE (k T : Int) : (Int × Int) × Int := thruE (fun a => scaleE a (endN k) 100000) ((T, T), 0)
noncomputable def corrE (k B T M C : Int) : (Int × Int) × Int := withE addW (mouthE B M C) (endE k T)
def wayE (sp : (Int × Int) × Int) (k : Int) : (Int × Int) × Int := thruE (fun a => scaleE a (part k) 1) sp
noncomputable def lenE (sp : (Int × Int) × Int) (k B T M C : Int) (f : Int × Int) : (Int × Int) × Int := limE (withE subW (withE divE (wayE sp k) (limE (f, 0) 1000 20000000 2)) (corrE k B T M C)) 1 12000000 7
noncomputable def pitE (sp : (Int × Int) × Int) (k B T M C : Int) (l : Int × Int) : (Int × Int) × Int := limE (withE divE (wayE sp k) (withE addW (limE (l, 0) 1 12000000 2) (corrE k B T M C))) 1 200000000 7
noncomputable def lenV (sp : (Int × Int) × Int) (k B T M C : Int) (f : Int × Int) : (Int × Int) × Int := if bdB k B T M C = true then lenE sp k B T M C f else ((0, 0), 2)
noncomputable def pitV (sp : (Int × Int) × Int) (k B T M C : Int) (l : Int × Int) : (Int × Int) × Int := if bdB k B T M C = true then pitE sp k B T M C l else ((0, 0), 2)
/-- What Speed returns. -/
def SpOk (sp : (Int × Int) × Int) : Prop := sp = ((0, 0), 2) ∨ ∃ wl wh, sp = ((wl, wh), 0) ∧ 0 ≤ wl ∧ wl ≤ wh ∧ wh ≤ 400000001

theorem rt2_mid {n : Int} (h : 0 ≤ n) (h2 : n ≤ 4000000000000) : ∃ lo hi, rt2 (n, n) = ((lo, hi), 0) ∧ IsRoot n lo 2 ∧ lo ≤ hi ∧ hi ≤ lo + 1 ∧ (lo * lo = n → hi = lo) := by
  have he : examI [(n, n)] = 0 := examI_of (fun x hx => by
    rw [List.mem_singleton] at hx; subst hx
    exact ⟨ok_far (by show _ ≤ n; omega) (by show n ≤ _; omega), ok_far (by show _ ≤ n; omega) (by show n ≤ _; omega), Int.le_refl _⟩)
  have hs : Rt2 (n, n) (rt2 (n, n)) := by
    refine Classical.epsilon_spec (p := Rt2 (n, n)) ?_
    have hroot : ∃ r, IsRoot n r 2 := by
      have key : ∀ m : Nat, ∃ r : Nat, r ^ 2 ≤ m ∧ m < (r + 1) ^ 2 := fun m => by
        induction m with
        | zero => exact ⟨0, by decide, by decide⟩
        | succ m ih =>
          obtain ⟨r, h1, h2⟩ := ih
          by_cases hc : (r + 1) ^ 2 ≤ m + 1
          · refine ⟨r + 1, hc, ?_⟩
            have : (r + 1 + 1) ^ 2 = (r + 1) ^ 2 + 2 * r + 3 := by simp only [Nat.pow_succ, Nat.pow_zero]; grind
            omega
          · exact ⟨r, by omega, by omega⟩
      obtain ⟨r, h1, h2⟩ := key n.toNat
      have e : n = (n.toNat : Int) := (Int.toNat_of_nonneg h).symm
      refine ⟨(r : Int), Int.natCast_nonneg _, ?_, ?_⟩
      · rw [e, ← Int.natCast_pow]; exact Int.ofNat_le.2 h1
      · rw [e, show ((r : Int) + 1) = ((r + 1 : Nat) : Int) by omega, ← Int.natCast_pow]; exact Int.ofNat_lt.2 h2
    obtain ⟨r, hr⟩ := hroot
    exact ⟨((r, if r ^ 2 < n then r + 1 else r), 0), fun h => absurd he h, fun _ h' => absurd h' (by show ¬ n < 0; omega), fun _ _ => ⟨r, r, hr, hr, rfl⟩⟩
  obtain ⟨lo, hi, h1, h3, e⟩ := hs.2.2 he h
  have e2 := isRoot_uniq h1 h3
  subst e2
  refine ⟨lo, _, e, h1, ?_, ?_, ?_⟩
  · split <;> omega
  · split <;> omega
  · intro hh
    rw [if_neg]
    show ¬ lo ^ 2 < n
    rw [show lo ^ 2 = lo * lo by rw [Int.pow_succ, Int.pow_succ, Int.pow_zero, Int.one_mul]]; omega
theorem root_bd {n lo : Int} (h : IsRoot n lo 2) (h1 : 1 ≤ n) (h2 : n ≤ 4000000000000) : 1 ≤ lo ∧ lo ≤ 2000000 := by
  obtain ⟨a, b, c⟩ := h
  have sq : ∀ x : Int, x ^ 2 = x * x := fun x => by rw [Int.pow_succ, Int.pow_succ, Int.pow_zero, Int.one_mul]
  rw [sq] at b c
  constructor
  · refine Int.le_of_not_gt fun hh => ?_
    obtain rfl : lo = 0 := by omega
    simp at c; omega
  · refine Int.le_of_not_gt fun hh => ?_
    have := Int.mul_le_mul (show 2000001 ≤ lo by omega) (show 2000001 ≤ lo by omega) (by omega) a
    omega
theorem with_ok {f : Int × Int → Int × Int → (Int × Int) × Int} {c d : (Int × Int) × Int} (h : c.2 = 0) (g : d.2 = 0) : withE f c d = f c.1 d.1 := by unfold withE; rw [if_pos h, if_pos g]
theorem thru_ok {f : Int × Int → (Int × Int) × Int} {c : (Int × Int) × Int} (h : c.2 = 0) : thruE f c = f c.1 := by unfold thruE; rw [if_pos h]
theorem mouth_eq {B M C : Int} (hB : 1000 ≤ B) (hB2 : B ≤ 500000) (hM : 1 ≤ M) (hM2 : M ≤ 4 * B) (hC : 1 ≤ C) (hC2 : C ≤ 4 * B) : ∃ lo hi, IsRoot (M * C) lo 2 ∧ lo ≤ hi ∧ hi ≤ lo + 1 ∧ (lo * lo = M * C → hi = lo) ∧ 1 ≤ lo ∧ mouthE B M C = ((B * B * 575 / 1000 / hi, upI (upI (B * B * 575) 1000) lo), 0) ∧ Mid (B * B * 575 / 1000 / hi, upI (upI (B * B * 575) 1000) lo) ∧ upI (upI (B * B * 575) 1000) lo ≤ 150000000000 := by
  have b1 : 0 ≤ B * B := Int.mul_nonneg (by omega) (by omega)
  have b2 : B * B ≤ 500000 * 500000 := Int.mul_le_mul hB2 hB2 (by omega) (by omega)
  have c1 : 1 * 1 ≤ M * C := Int.mul_le_mul hM hC (by omega) (by omega)
  have c2 : M * C ≤ 2000000 * 2000000 := Int.mul_le_mul (show M ≤ 2000000 by omega) (show C ≤ 2000000 by omega) (by omega) (by omega)
  have m1 : Mid (B, B) := ⟨by show 0 ≤ B; omega, Int.le_refl _, by show B ≤ _; omega⟩
  have m2 : Mid (M, M) := ⟨by show 0 ≤ M; omega, Int.le_refl _, by show M ≤ _; omega⟩
  have m3 : Mid (C, C) := ⟨by show 0 ≤ C; omega, Int.le_refl _, by show C ≤ _; omega⟩
  have e1 := mul_mid m1 m1 (by show B * B ≤ _; omega)
  have e2 := mul_mid m2 m3 (by show M * C ≤ _; omega)
  obtain ⟨lo, hi, er, hr, h1, h2, h3⟩ := rt2_mid (n := M * C) (by omega) (by omega)
  obtain ⟨r1, r2⟩ := root_bd hr (by omega) (by omega)
  have m4 : Mid (B * B, B * B) := ⟨b1, Int.le_refl _, by show B * B ≤ _; omega⟩
  have e3 := scale_mid (n := 575) (d := 1000) m4 (by omega) (by omega) (by omega) (by omega)
  have u1 : B * B * 575 / 1000 ≤ upI (B * B * 575) 1000 := ediv_up (by omega)
  have u2 : upI (B * B * 575) 1000 ≤ 143750000000 := (up_le_iff (by omega)).2 (by omega)
  have u3 : 0 ≤ B * B * 575 / 1000 := Int.ediv_nonneg (by omega) (by omega)
  have m5 : Mid (B * B * 575 / 1000, upI (B * B * 575) 1000) := ⟨u3, u1, by show upI _ _ ≤ _; omega⟩
  have m6 : Mid (lo, hi) := ⟨by show 0 ≤ lo; omega, h1, by show hi ≤ _; omega⟩
  have e4 := div_mid m5 m6 r1
  have v1 := Int.ediv_nonneg u3 (show 0 ≤ hi by omega)
  have v2 := up_le_self (show 0 ≤ upI (B * B * 575) 1000 by omega) r1
  have v3 := Int.ediv_le_ediv (show 0 < hi by omega) u1
  have v4 := ediv_up (a := upI (B * B * 575) 1000) (show 0 < hi by omega)
  have v5 := up_anti (show 0 ≤ upI (B * B * 575) 1000 by omega) (show 0 < lo by omega) h1
  refine ⟨lo, hi, hr, h1, h2, h3, r1, ?_, ⟨v1, by show _ / hi ≤ upI _ lo; omega, by show upI _ lo ≤ _; omega⟩, by omega⟩
  unfold mouthE
  rw [with_ok (c := ((B, B), 0)) rfl rfl, with_ok (c := ((M, M), 0)) rfl rfl, e1, e2, thru_ok rfl, thru_ok rfl, e3, er, with_ok rfl rfl, e4]
theorem end_eq {k T : Int} (h1 : 0 ≤ T) (h2 : T ≤ 500000) : endE k T = ((T * endN k / 100000, upI (T * endN k) 100000), 0) ∧ Mid (T * endN k / 100000, upI (T * endN k) 100000) ∧ upI (T * endN k) 100000 ≤ 500000 := by
  have hn : 0 ≤ endN k ∧ endN k ≤ 30665 := by unfold endN; split <;> omega
  have m1 : Mid (T, T) := ⟨h1, Int.le_refl _, by show T ≤ _; omega⟩
  have b1 : 0 ≤ T * endN k := Int.mul_nonneg h1 hn.1
  have b2 : T * endN k ≤ 500000 * 30665 := Int.mul_le_mul h2 hn.2 hn.1 (by omega)
  have u2 : upI (T * endN k) 100000 ≤ 500000 := (up_le_iff (by omega)).2 (by omega)
  unfold endE
  rw [thru_ok rfl, scale_mid m1 hn.1 (by omega) (by omega) (by omega)]
  exact ⟨rfl, ⟨Int.ediv_nonneg b1 (by omega), ediv_up (by omega), by show upI _ _ ≤ _; omega⟩, u2⟩
theorem bd_top {k B T M C : Int} (h : bdB k B T M C = true) : 1000 ≤ T ∧ T ≤ 500000 := by
  obtain ⟨_, h2, h3, _⟩ := bdB_iff.1 h
  split at h3 <;> omega
theorem corr_eq {k B T M C : Int} (h : bdB k B T M C = true) : ∃ cl ch, corrE k B T M C = ((cl, ch), 0) ∧ 0 ≤ cl ∧ cl ≤ ch ∧ ch ≤ 160000000000 := by
  obtain ⟨t1, t2⟩ := bd_top h
  obtain ⟨_, ⟨h1, h2⟩, _, ⟨h3, h4⟩, h5, h6⟩ := bdB_iff.1 h
  obtain ⟨lo, hi, -, -, -, -, -, e1, m1, u1⟩ := mouth_eq h1 h2 h3 h4 h5 h6
  obtain ⟨e2, m2, u2⟩ := end_eq (k := k) (show 0 ≤ T by omega) t2
  have e3 := add_mid m1 m2
  obtain ⟨a1, a2, a3⟩ := m1
  obtain ⟨b1, b2, b3⟩ := m2
  unfold corrE
  rw [e1, e2, with_ok rfl rfl, e3]
  exact ⟨_, _, rfl, by show 0 ≤ _ + _; omega, by show _ + _ ≤ _ + _; omega, by show _ + _ ≤ _; omega⟩
theorem way_eq {wl wh k : Int} (h0 : 0 ≤ wl) (h1 : wl ≤ wh) (h2 : wh ≤ 400000001) : wayE ((wl, wh), 0) k = ((wl * part k, wh * part k), 0) ∧ 0 ≤ wl * part k ∧ wl * part k ≤ wh * part k ∧ wh * part k ≤ 200000000500 := by
  have hn : 250 ≤ part k ∧ part k ≤ 500 := by unfold part; split <;> omega
  have m1 : Mid (wl, wh) := ⟨h0, h1, by show wh ≤ _; omega⟩
  unfold wayE
  rw [thru_ok rfl, scale_mid m1 (by omega) (by omega) (by omega) (by omega), Int.ediv_one, upI_one]
  exact ⟨rfl, Int.mul_nonneg h0 (by omega), Int.mul_le_mul_of_nonneg_right h1 (by omega), Int.le_trans (Int.mul_le_mul h2 hn.2 (by omega) (by omega)) (by omega)⟩
def lim2 (p : Int × Int) (hi : Int) : (Int × Int) × Int := if 1 ≤ p.1 ∧ p.1 ≤ p.2 ∧ p.2 ≤ hi then (p, 0) else ((0, 0), 7)
theorem lim_two {p : Int × Int} {hi : Int} : limE (p, 0) 1 hi 7 = lim2 p hi := by
  unfold limE lim2
  by_cases h : 1 ≤ p.1 ∧ p.1 ≤ p.2 ∧ p.2 ≤ hi
  · rw [if_neg (fun hh => hh.2 h), if_pos h]
  · rw [if_pos ⟨rfl, h⟩, if_neg h]
theorem lim_arg {p : Int × Int} {lo hi : Int} : limE (p, 0) lo hi 2 = if lo ≤ p.1 ∧ p.1 ≤ p.2 ∧ p.2 ≤ hi then (p, 0) else ((0, 0), 2) := by
  unfold limE
  by_cases h : lo ≤ p.1 ∧ p.1 ≤ p.2 ∧ p.2 ≤ hi
  · rw [if_neg (fun hh => hh.2 h), if_pos h]
  · rw [if_pos ⟨rfl, h⟩, if_neg h]
theorem len_eq {wl wh k B T M C cl ch : Int} {f : Int × Int} (h0 : 0 ≤ wl) (h1 : wl ≤ wh) (h2 : wh ≤ 400000001) (hc : corrE k B T M C = ((cl, ch), 0)) (c0 : 0 ≤ cl) (c1 : cl ≤ ch) (c2 : ch ≤ 160000000000) (hf : 1000 ≤ f.1 ∧ f.1 ≤ f.2 ∧ f.2 ≤ 20000000) :
    lenE ((wl, wh), 0) k B T M C f = lim2 (wl * part k / f.2 - ch, upI (wh * part k) f.1 - cl) 12000000 := by
  obtain ⟨e1, w0, w1, w2⟩ := way_eq (k := k) h0 h1 h2
  unfold lenE
  rw [e1, hc, lim_arg, if_pos hf, with_ok (c := ((wl * part k, wh * part k), 0)) (d := (f, 0)) rfl rfl]
  have m1 : Mid (wl * part k, wh * part k) := ⟨w0, w1, by show _ * _ ≤ _; omega⟩
  have m2 : Mid f := ⟨by omega, by omega, by omega⟩
  have e2 : divE (wl * part k, wh * part k) f = ((wl * part k / f.2, upI (wh * part k) f.1), 0) := div_mid m1 m2 (by omega)
  rw [e2, with_ok rfl rfl]
  have v1 := Int.ediv_nonneg w0 (show 0 ≤ f.2 by omega)
  have v2 := up_le_self (show 0 ≤ wh * part k by omega) (show 1 ≤ f.1 by omega)
  have v3 := Int.ediv_le_ediv (show 0 < f.2 by omega) w1
  have v4 := ediv_up (a := wh * part k) (show 0 < f.2 by omega)
  have v5 := up_anti (show 0 ≤ wh * part k by omega) (show 0 < f.1 by omega) hf.2.1
  have v6 : wl * part k / f.2 ≤ upI (wh * part k) f.1 := by omega
  have v7 : upI (wh * part k) f.1 ≤ 2000000000000 := by omega
  have e3 : subW (wl * part k / f.2, upI (wh * part k) f.1) (cl, ch) = ((wl * part k / f.2 - ch, upI (wh * part k) f.1 - cl), 0) := sub_mid ⟨v1, v6, v7⟩ ⟨c0, c1, by show ch ≤ _; omega⟩
  rw [e3, lim_two]
theorem pit_eq {wl wh k B T M C cl ch : Int} {l : Int × Int} (h0 : 0 ≤ wl) (h1 : wl ≤ wh) (h2 : wh ≤ 400000001) (hc : corrE k B T M C = ((cl, ch), 0)) (c0 : 0 ≤ cl) (c1 : cl ≤ ch) (c2 : ch ≤ 160000000000) (hl : 1 ≤ l.1 ∧ l.1 ≤ l.2 ∧ l.2 ≤ 12000000) :
    pitE ((wl, wh), 0) k B T M C l = lim2 (wl * part k / (l.2 + ch), upI (wh * part k) (l.1 + cl)) 200000000 := by
  obtain ⟨e1, w0, w1, w2⟩ := way_eq (k := k) h0 h1 h2
  unfold pitE
  rw [e1, hc, lim_arg, if_pos hl, with_ok (d := ((cl, ch), 0)) rfl rfl]
  have m1 : Mid (wl * part k, wh * part k) := ⟨w0, w1, by show _ * _ ≤ _; omega⟩
  have m2 : Mid l := ⟨by omega, by omega, by omega⟩
  rw [add_mid m2 ⟨c0, c1, by show ch ≤ _; omega⟩, with_ok rfl rfl]
  rw [div_mid m1 ⟨by show 0 ≤ l.1 + cl; omega, by show l.1 + cl ≤ l.2 + ch; omega, by show l.2 + ch ≤ _; omega⟩ (by show 1 ≤ l.1 + cl; omega), lim_two]
theorem with_bad1 {f : Int × Int → Int × Int → (Int × Int) × Int} {c d : (Int × Int) × Int} (h : c.2 = 2) : withE f c d = ((0, 0), 2) := by unfold withE; rw [if_neg (by rw [h]; decide), h]
theorem with_bad2 {f : Int × Int → Int × Int → (Int × Int) × Int} {c d : (Int × Int) × Int} (h : c.2 = 0) (g : d.2 = 2) : withE f c d = ((0, 0), 2) := by unfold withE; rw [if_pos h, if_neg (by rw [g]; decide), g]
theorem lim_bad {c : (Int × Int) × Int} {lo hi e : Int} (h : c.2 = 2) : limE c lo hi e = c := by unfold limE; rw [if_neg (by rintro ⟨g, -⟩; rw [h] at g; cases g)]
theorem way_bad {k : Int} : wayE ((0, 0), 2) k = ((0, 0), 2) := by unfold wayE thruE; rw [if_neg (by decide)]
theorem len_bad {sp : (Int × Int) × Int} {k B T M C : Int} {f : Int × Int} (hs : SpOk sp) (hb : bdB k B T M C = true) (h : sp.2 = 2 ∨ ¬ (1000 ≤ f.1 ∧ f.1 ≤ f.2 ∧ f.2 ≤ 20000000)) : lenE sp k B T M C f = ((0, 0), 2) := by
  obtain ⟨cl, ch, hc, -⟩ := corr_eq hb
  unfold lenE
  rw [hc, lim_arg]
  rcases hs with rfl | ⟨wl, wh, rfl, h0, h1, h2⟩
  · rw [way_bad, with_bad1 (c := ((0, 0), 2)) rfl, with_bad1 (c := ((0, 0), 2)) rfl, lim_bad rfl]
  · rcases h with h | h
    · cases h
    · rw [if_neg h, (way_eq (k := k) h0 h1 h2).1, with_bad2 (d := ((0, 0), 2)) rfl rfl, with_bad1 (c := ((0, 0), 2)) rfl, lim_bad rfl]
theorem pit_bad {sp : (Int × Int) × Int} {k B T M C : Int} {l : Int × Int} (hs : SpOk sp) (hb : bdB k B T M C = true) (h : sp.2 = 2 ∨ ¬ (1 ≤ l.1 ∧ l.1 ≤ l.2 ∧ l.2 ≤ 12000000)) : pitE sp k B T M C l = ((0, 0), 2) := by
  obtain ⟨cl, ch, hc, -⟩ := corr_eq hb
  unfold pitE
  rw [hc, lim_arg]
  rcases hs with rfl | ⟨wl, wh, rfl, h0, h1, h2⟩
  · rw [way_bad, with_bad1 (c := ((0, 0), 2)) rfl, lim_bad rfl]
  · rcases h with h | h
    · cases h
    · rw [if_neg h, (way_eq (k := k) h0 h1 h2).1, with_bad1 (c := ((0, 0), 2)) rfl, with_bad2 (d := ((0, 0), 2)) rfl rfl, lim_bad rfl]

theorem lim2_ok {p : Int × Int} {hi : Int} (h : (lim2 p hi).2 = 0) : lim2 p hi = (p, 0) ∧ 1 ≤ p.1 ∧ p.1 ≤ p.2 ∧ p.2 ≤ hi := by
  unfold lim2 at h ⊢
  by_cases g : 1 ≤ p.1 ∧ p.1 ≤ p.2 ∧ p.2 ≤ hi
  · rw [if_pos g]; exact ⟨rfl, g⟩
  · rw [if_neg g] at h; cases h
/-- A pipe's case: it is valid, the speed is known, and the interval is valid. -/
theorem len_case {sp : (Int × Int) × Int} {k B T M C : Int} {f : Int × Int} (hs : SpOk sp) (h : (lenV sp k B T M C f).2 ≠ 2) : bdB k B T M C = true ∧ (∃ wl wh, sp = ((wl, wh), 0) ∧ 0 ≤ wl ∧ wl ≤ wh ∧ wh ≤ 400000001) ∧ (1000 ≤ f.1 ∧ f.1 ≤ f.2 ∧ f.2 ≤ 20000000) := by
  unfold lenV at h
  by_cases hb : bdB k B T M C = true
  · rw [if_pos hb] at h
    refine ⟨hb, ?_, ?_⟩
    · rcases hs with rfl | g
      · exact absurd (by rw [len_bad (.inl rfl) hb (.inl rfl)]) h
      · exact g
    · refine Classical.byContradiction fun g => h ?_
      rw [len_bad hs hb (.inr g)]
  · rw [if_neg hb] at h; exact absurd rfl h
theorem pit_case {sp : (Int × Int) × Int} {k B T M C : Int} {l : Int × Int} (hs : SpOk sp) (h : (pitV sp k B T M C l).2 ≠ 2) : bdB k B T M C = true ∧ (∃ wl wh, sp = ((wl, wh), 0) ∧ 0 ≤ wl ∧ wl ≤ wh ∧ wh ≤ 400000001) ∧ (1 ≤ l.1 ∧ l.1 ≤ l.2 ∧ l.2 ≤ 12000000) := by
  unfold pitV at h
  by_cases hb : bdB k B T M C = true
  · rw [if_pos hb] at h
    refine ⟨hb, ?_, ?_⟩
    · rcases hs with rfl | g
      · exact absurd (by rw [pit_bad (.inl rfl) hb (.inl rfl)]) h
      · exact g
    · refine Classical.byContradiction fun g => h ?_
      rw [pit_bad hs hb (.inr g)]
  · rw [if_neg hb] at h; exact absurd rfl h
theorem lenV_ok {k B T M C : Int} {f : Int × Int} {wl wh : Int} (hb : bdB k B T M C = true) (h0 : 0 ≤ wl) (h1 : wl ≤ wh) (h2 : wh ≤ 400000001) (hf : 1000 ≤ f.1 ∧ f.1 ≤ f.2 ∧ f.2 ≤ 20000000) {cl ch : Int} (hc : corrE k B T M C = ((cl, ch), 0)) (c0 : 0 ≤ cl) (c1 : cl ≤ ch) (c2 : ch ≤ 160000000000) :
    lenV ((wl, wh), 0) k B T M C f = lim2 (wl * part k / f.2 - ch, upI (wh * part k) f.1 - cl) 12000000 := by
  unfold lenV; rw [if_pos hb, len_eq h0 h1 h2 hc c0 c1 c2 hf]
theorem pitV_ok {k B T M C : Int} {l : Int × Int} {wl wh : Int} (hb : bdB k B T M C = true) (h0 : 0 ≤ wl) (h1 : wl ≤ wh) (h2 : wh ≤ 400000001) (hl : 1 ≤ l.1 ∧ l.1 ≤ l.2 ∧ l.2 ≤ 12000000) {cl ch : Int} (hc : corrE k B T M C = ((cl, ch), 0)) (c0 : 0 ≤ cl) (c1 : cl ≤ ch) (c2 : ch ≤ 160000000000) :
    pitV ((wl, wh), 0) k B T M C l = lim2 (wl * part k / (l.2 + ch), upI (wh * part k) (l.1 + cl)) 200000000 := by
  unfold pitV; rw [if_pos hb, pit_eq h0 h1 h2 hc c0 c1 c2 hl]
end Go.Proofs.YtmbcejldifobnaaDoor.Ln

namespace Go.Proofs.YtmbcejldifobnaaDoor.Ln
open Sp
def SpLe (sp sq : (Int × Int) × Int) : Prop := sp.2 = 0 → sq.2 = 0 → sp.1.1 ≤ sq.1.1 ∧ sp.1.2 ≤ sq.1.2
theorem rise_len {sp sq : (Int × Int) × Int} {k B T M C : Int} {x y : Int × Int} (hs : SpOk sp) (hq : SpOk sq) (hle : SpLe sp sq) (h : (lenV sp k B T M C x).2 = 0) (g : (lenV sq k B T M C y).2 = 0) (h1 : y.1 ≤ x.1) (h2 : y.2 ≤ x.2) :
    (lenV sp k B T M C x).1.1 ≤ (lenV sq k B T M C y).1.1 ∧ (lenV sp k B T M C x).1.2 ≤ (lenV sq k B T M C y).1.2 := by
  obtain ⟨hb, ⟨wl, wh, rfl, a0, a1, a2⟩, hf⟩ := len_case hs (by rw [h]; decide)
  obtain ⟨-, ⟨vl, vh, rfl, b0, b1, b2⟩, hy⟩ := len_case hq (by rw [g]; decide)
  obtain ⟨l1, l2⟩ := hle rfl rfl
  obtain ⟨cl, ch, hc, c0, c1, c2⟩ := corr_eq hb
  obtain ⟨-, w0, w1, w2⟩ := way_eq (k := k) a0 a1 a2
  obtain ⟨-, v0, v1, v2⟩ := way_eq (k := k) b0 b1 b2
  rw [lenV_ok hb a0 a1 a2 hf hc c0 c1 c2] at h ⊢
  rw [lenV_ok hb b0 b1 b2 hy hc c0 c1 c2] at g ⊢
  obtain ⟨e, -⟩ := lim2_ok h
  obtain ⟨e', -⟩ := lim2_ok g
  rw [e, e']
  have hn : 250 ≤ part k := by unfold part; split <;> omega
  simp only [] at l1 l2 ⊢
  have q1 : wl * part k ≤ vl * part k := Int.mul_le_mul_of_nonneg_right l1 (by omega)
  have q2 : wh * part k ≤ vh * part k := Int.mul_le_mul_of_nonneg_right l2 (by omega)
  have r1 := Int.ediv_le_ediv (show 0 < x.2 by omega) q1
  have r2 := ediv_anti v0 (show 0 < y.2 by omega) h2
  have r3 := up_le (show 0 < x.1 by omega) q2
  have r4 := up_anti (show 0 ≤ vh * part k by omega) (show 0 < y.1 by omega) h1
  omega
theorem rise_pit {sp sq : (Int × Int) × Int} {k B T M C : Int} {x y : Int × Int} (hs : SpOk sp) (hq : SpOk sq) (hle : SpLe sp sq) (h : (pitV sp k B T M C x).2 = 0) (g : (pitV sq k B T M C y).2 = 0) (h1 : y.1 ≤ x.1) (h2 : y.2 ≤ x.2) :
    (pitV sp k B T M C x).1.1 ≤ (pitV sq k B T M C y).1.1 ∧ (pitV sp k B T M C x).1.2 ≤ (pitV sq k B T M C y).1.2 := by
  obtain ⟨hb, ⟨wl, wh, rfl, a0, a1, a2⟩, hf⟩ := pit_case hs (by rw [h]; decide)
  obtain ⟨-, ⟨vl, vh, rfl, b0, b1, b2⟩, hy⟩ := pit_case hq (by rw [g]; decide)
  obtain ⟨l1, l2⟩ := hle rfl rfl
  obtain ⟨cl, ch, hc, c0, c1, c2⟩ := corr_eq hb
  obtain ⟨-, w0, w1, w2⟩ := way_eq (k := k) a0 a1 a2
  obtain ⟨-, v0, v1, v2⟩ := way_eq (k := k) b0 b1 b2
  rw [pitV_ok hb a0 a1 a2 hf hc c0 c1 c2] at h ⊢
  rw [pitV_ok hb b0 b1 b2 hy hc c0 c1 c2] at g ⊢
  obtain ⟨e, -⟩ := lim2_ok h
  obtain ⟨e', -⟩ := lim2_ok g
  rw [e, e']
  have hn : 250 ≤ part k := by unfold part; split <;> omega
  simp only [] at l1 l2 ⊢
  have q1 : wl * part k ≤ vl * part k := Int.mul_le_mul_of_nonneg_right l1 (by omega)
  have q2 : wh * part k ≤ vh * part k := Int.mul_le_mul_of_nonneg_right l2 (by omega)
  have r1 := Int.ediv_le_ediv (show 0 < x.2 + ch by omega) q1
  have r2 := ediv_anti v0 (show 0 < y.2 + ch by omega) (show y.2 + ch ≤ x.2 + ch by omega)
  have r3 := up_le (show 0 < x.1 + cl by omega) q2
  have r4 := up_anti (show 0 ≤ vh * part k by omega) (show 0 < y.1 + cl by omega) (show y.1 + cl ≤ x.1 + cl by omega)
  omega
theorem SpLe.refl (sp : (Int × Int) × Int) : SpLe sp sp := fun _ _ => ⟨Int.le_refl _, Int.le_refl _⟩
theorem in_len {sp : (Int × Int) × Int} {k B T M C : Int} {x : Int × Int} {m : Int} (hs : SpOk sp) (h : (lenV sp k B T M C x).2 = 0) (h1 : x.1 ≤ m) (h2 : m ≤ x.2) :
    (lenV sp k B T M C (m, m)).2 = 0 ∧ (lenV sp k B T M C x).1.1 ≤ (lenV sp k B T M C (m, m)).1.1 ∧ (lenV sp k B T M C (m, m)).1.2 ≤ (lenV sp k B T M C x).1.2 := by
  obtain ⟨hb, ⟨wl, wh, rfl, a0, a1, a2⟩, hf⟩ := len_case hs (by rw [h]; decide)
  obtain ⟨cl, ch, hc, c0, c1, c2⟩ := corr_eq hb
  obtain ⟨-, w0, w1, w2⟩ := way_eq (k := k) a0 a1 a2
  rw [lenV_ok hb a0 a1 a2 hf hc c0 c1 c2] at h ⊢
  rw [lenV_ok hb a0 a1 a2 ⟨by show 1000 ≤ m; omega, Int.le_refl _, by show m ≤ _; omega⟩ hc c0 c1 c2]
  obtain ⟨e, p1, p2, p3⟩ := lim2_ok h
  rw [e]
  simp only [] at p1 p2 p3 ⊢
  have r1 := ediv_anti w0 (show 0 < m by omega) h2
  have r2 := up_anti (show 0 ≤ wh * part k by omega) (show 0 < x.1 by omega) h1
  have r3 := Int.ediv_le_ediv (show 0 < m by omega) w1
  have r4 := ediv_up (a := wh * part k) (show 0 < m by omega)
  unfold lim2
  rw [if_pos ⟨by show 1 ≤ _ / m - ch; omega, by show wl * part k / m - ch ≤ upI (wh * part k) m - cl; omega, by show upI (wh * part k) m - cl ≤ _; omega⟩]
  refine ⟨rfl, ?_, ?_⟩
  · show _ ≤ wl * part k / m - ch; omega
  · show upI (wh * part k) m - cl ≤ _; omega
theorem in_pit {sp : (Int × Int) × Int} {k B T M C : Int} {x : Int × Int} {m : Int} (hs : SpOk sp) (h : (pitV sp k B T M C x).2 = 0) (h1 : x.1 ≤ m) (h2 : m ≤ x.2) :
    (pitV sp k B T M C (m, m)).2 = 0 ∧ (pitV sp k B T M C x).1.1 ≤ (pitV sp k B T M C (m, m)).1.1 ∧ (pitV sp k B T M C (m, m)).1.2 ≤ (pitV sp k B T M C x).1.2 := by
  obtain ⟨hb, ⟨wl, wh, rfl, a0, a1, a2⟩, hf⟩ := pit_case hs (by rw [h]; decide)
  obtain ⟨cl, ch, hc, c0, c1, c2⟩ := corr_eq hb
  obtain ⟨-, w0, w1, w2⟩ := way_eq (k := k) a0 a1 a2
  rw [pitV_ok hb a0 a1 a2 hf hc c0 c1 c2] at h ⊢
  rw [pitV_ok hb a0 a1 a2 ⟨by show 1 ≤ m; omega, Int.le_refl _, by show m ≤ _; omega⟩ hc c0 c1 c2]
  obtain ⟨e, p1, p2, p3⟩ := lim2_ok h
  rw [e]
  simp only [] at p1 p2 p3 ⊢
  have r1 := ediv_anti w0 (show 0 < m + ch by omega) (show m + ch ≤ x.2 + ch by omega)
  have r2 := up_anti (show 0 ≤ wh * part k by omega) (show 0 < x.1 + cl by omega) (show x.1 + cl ≤ m + cl by omega)
  have r3 := Int.ediv_le_ediv (show 0 < m + ch by omega) w1
  have r4 := ediv_up (a := wh * part k) (show 0 < m + ch by omega)
  have r5 := up_anti (show 0 ≤ wh * part k by omega) (show 0 < m + cl by omega) (show m + cl ≤ m + ch by omega)
  unfold lim2
  rw [if_pos ⟨by show 1 ≤ _ / (m + ch); omega, by show wl * part k / (m + ch) ≤ upI (wh * part k) (m + cl); omega, by show upI (wh * part k) (m + cl) ≤ _; omega⟩]
  refine ⟨rfl, ?_, ?_⟩
  · show _ ≤ wl * part k / (m + ch); omega
  · show upI (wh * part k) (m + cl) ≤ _; omega

theorem ex_mouth : mouthE 50000 40000 10000 = ((71875, 71875), 0) := by
  obtain ⟨lo, hi, hr, -, -, h, -, e, -⟩ := mouth_eq (B := 50000) (M := 40000) (C := 10000) (by decide) (by decide) (by decide) (by decide) (by decide) (by decide)
  obtain rfl : lo = 20000 := isRoot_uniq hr ⟨by decide, by decide, by decide⟩
  rw [e, h (by decide)]; rfl
theorem ex_end : endE 1 50000 = ((15332, 15333), 0) := by rw [(end_eq (by decide) (by decide)).1]; rfl
theorem ex_corr : corrE 1 50000 50000 40000 10000 = ((87207, 87208), 0) := by
  unfold corrE
  rw [ex_mouth, ex_end, with_ok rfl rfl, add_mid (by unfold Mid; decide) (by unfold Mid; decide)]; rfl
theorem ex_len {f : Int × Int} (h : 1000 ≤ f.1 ∧ f.1 ≤ f.2 ∧ f.2 ≤ 20000000) : lenV ((331300000, 331300000), 0) 1 50000 50000 40000 10000 f = lim2 (165650000000 / f.2 - 87208, upI 165650000000 f.1 - 87207) 12000000 :=
  lenV_ok (k := 1) (by decide) (by decide) (by decide) (by decide) h ex_corr (by decide) (by decide) (by decide)
theorem ex_len1 : lenV ((331300000, 331300000), 0) 1 50000 50000 40000 10000 (440000, 440000) = ((289269, 289271), 0) := by
  rw [ex_len (by decide)]; rfl
theorem ex_len2 : lenV ((331300000, 331300000), 0) 1 50000 50000 40000 10000 (20000000, 20000000) = ((0, 0), 7) := by
  rw [ex_len (by decide)]; rfl
theorem ex_pit : pitV ((331300000, 331300000), 0) 1 50000 50000 40000 10000 (289270, 289270) = ((439999, 440001), 0) := by
  rw [pitV_ok (k := 1) (by decide) (by decide) (by decide) (by decide) (by decide) ex_corr (by decide) (by decide) (by decide)]; rfl
end Go.Proofs.YtmbcejldifobnaaDoor.Ln
