import Derived.Test.YtmbcejldifobnaaDoorC05
import Derived.Laws.Externs
namespace Go.Proofs.YtmbcejldifobnaaDoor.Ln
open Sp
theorem le_of_mul_le {a b c : Int} (h : a * c ≤ b * c) (hc : 0 < c) : a ≤ b := Int.le_of_mul_le_mul_right h hc
theorem there_back {wl wh xl xh sl sh : Int} (h1 : wl ≤ wh) (h2 : 1 ≤ xl) (h3 : xl ≤ xh) (h4 : 1 ≤ sl) (h5 : sl ≤ wl / xh) (h6 : upI wh xl ≤ sh) (h7 : 1 ≤ sh) : wl / sh ≤ xl ∧ xh ≤ upI wh sl := by
  constructor
  · have e1 := le_up (x := wh) (show 0 < xl by omega)
    have e2 : upI wh xl * xl ≤ sh * xl := Int.mul_le_mul_of_nonneg_right h6 (by omega)
    have e3 : wl ≤ xl * sh := by rw [Int.mul_comm]; omega
    have := Int.ediv_le_ediv (show 0 < sh by omega) e3
    rwa [Int.mul_ediv_cancel _ (show sh ≠ 0 by omega)] at this
  · have e1 := le_up (x := wh) (show 0 < sl by omega)
    have e2 : sl * xh ≤ wl / xh * xh := Int.mul_le_mul_of_nonneg_right h5 (by omega)
    have e3 := Int.ediv_mul_le wl (show xh ≠ 0 by omega)
    refine le_of_mul_le (c := sl) ?_ (by omega)
    rw [Int.mul_comm xh sl]; omega
theorem up_anti {a y z : Int} (ha : 0 ≤ a) (hy : 0 < y) (h : y ≤ z) : upI a z ≤ upI a y := by
  rw [up_le_iff (by omega)]
  have e1 := le_up (x := a) hy
  have h0 : 0 ≤ upI a y := by
    refine Int.le_of_not_gt fun hh => ?_
    have : upI a y * y < 0 := Int.mul_neg_of_neg_of_pos hh hy
    omega
  exact Int.le_trans e1 (Int.mul_le_mul_of_nonneg_left h h0)
theorem up_nonneg {a y : Int} (ha : 0 ≤ a) (hy : 0 < y) : 0 ≤ upI a y := by
  have e1 := le_up (x := a) hy
  refine Int.le_of_not_gt fun hh => ?_
  have : upI a y * y < 0 := Int.mul_neg_of_neg_of_pos hh hy
  omega
theorem up_le_self {a y : Int} (ha : 0 ≤ a) (hy : 1 ≤ y) : upI a y ≤ a := by
  rw [up_le_iff (by omega)]
  have := Int.mul_le_mul_of_nonneg_left hy ha
  rwa [Int.mul_one] at this
theorem quot_pos {a b : Int × Int} (h1 : 0 ≤ a.1) (h2 : 0 ≤ a.2) (h3 : 1 ≤ b.1) (h4 : b.1 ≤ b.2) : quotW a b = (a.1 / b.2, upI a.2 b.1) := by
  have := ediv_anti h1 (show 0 < b.1 by omega) h4
  have := up_anti h2 (show 0 < b.1 by omega) h4
  unfold quotW
  exact Prod.ext (by show min _ _ = _; omega) (by show max _ _ = _; omega)
theorem ediv_le_self {a y : Int} (ha : 0 ≤ a) (hy : 1 ≤ y) : a / y ≤ a := by
  have := ediv_anti ha (show (0 : Int) < 1 by omega) hy
  rwa [Int.ediv_one] at this
theorem ediv_up {a y : Int} (hy : 0 < y) : a / y ≤ upI a y := by
  have e1 := le_up (x := a) hy
  have e2 := Int.ediv_mul_le a (show y ≠ 0 by omega)
  exact le_of_mul_le (c := y) (by omega) hy
theorem minW_pos {a b : Int × Int} (h1 : 0 ≤ a.1) (h2 : a.1 ≤ a.2) (h3 : 0 ≤ b.1) (h4 : b.1 ≤ b.2) : minW a b = a.1 * b.1 ∧ maxW a b = a.2 * b.2 := by
  have e1 := Int.mul_le_mul_of_nonneg_left h4 h1
  have e2 := Int.mul_le_mul_of_nonneg_right h2 h3
  have e3 := Int.mul_le_mul_of_nonneg_left h4 (show 0 ≤ a.2 by omega)
  have e4 := Int.mul_le_mul_of_nonneg_right h2 (show 0 ≤ b.2 by omega)
  unfold minW maxW
  omega
end Go.Proofs.YtmbcejldifobnaaDoor.Ln

namespace Go.Proofs.YtmbcejldifobnaaDoor.Sp
open Go.RowKit
def prV (p : Int) : Value := .agg #[.int .i64 (p / 18446744073709551616), .int .u64 (p % 18446744073709551616)]
def Fits (p : Int) : Prop := -170141183460469231731687303715884105727 ≤ p ∧ p ≤ 170141183460469231731687303715884105727

theorem mul64_any (x y : Int) (hx : 0 ≤ x ∧ x < 18446744073709551616) (hy : 0 ≤ y ∧ y < 18446744073709551616) (w : World) :
    Calls Tryd.prog 193 #[.int .u64 x, .int .u64 y] w fun e w' => e = .returned (.tuple #[.int .u64 (x * y / 18446744073709551616), .int .u64 (x * y % 18446744073709551616)]) ∧ w = w' := by
  obtain ⟨x, rfl⟩ := Int.eq_ofNat_of_zero_le hx.1
  obtain ⟨y, rfl⟩ := Int.eq_ofNat_of_zero_le hy.1
  refine (Tryd.bits_Mul64 x y (by omega) (by omega) w).mono fun e w' ⟨h1, h2⟩ => ⟨?_, h2.symm⟩
  rw [h1]
  rfl

theorem mul_bound {x y : Int} (hx : I64 x) (hy : I64 y) : -85070591730234615865843651857942052864 ≤ x * y ∧ x * y ≤ 85070591730234615865843651857942052864 := by
  have h : (x * y).natAbs ≤ 9223372036854775808 * 9223372036854775808 := by
    rw [Int.natAbs_mul]
    unfold I64 at hx hy
    exact Nat.mul_le_mul (by omega) (by omega)
  omega
theorem wrap64_mod {n p : Int} (hp : I64 p) (h : n % 18446744073709551616 = p % 18446744073709551616) : wrap64 n = p := by
  unfold I64 at hp; unfold wrap64; omega
theorem times_val {x y h l H : Int} (hx : I64 x) (hy : I64 y) (hh : h = IntKind.u64.wrap x * IntKind.u64.wrap y / 18446744073709551616) (hl : l = IntKind.u64.wrap x * IntKind.u64.wrap y % 18446744073709551616)
    (hH : H % 18446744073709551616 = (h - (if x < 0 then IntKind.u64.wrap y else 0) - (if y < 0 then IntKind.u64.wrap x else 0)) % 18446744073709551616) : (.agg #[.int .i64 (wrap64 H), .int .u64 l] : Value) = prV (x * y) := by
  obtain ⟨h1, h2⟩ := times_words x y (IntKind.u64.wrap x) (IntKind.u64.wrap y) (by rw [IntKind.wrap_u64]) (by rw [IntKind.wrap_u64]) hx hy
  have hb := mul_bound hx hy
  have e1 : wrap64 H = x * y / 18446744073709551616 := wrap64_mod (by unfold I64; omega) (by rw [hH, hh, h2])
  unfold prV
  rw [e1, hl, h1]

set_option maxRecDepth 100000 in
theorem times_any (x y : Int) (w : World) (hx : I64 x) (hy : I64 y) :
    Calls Tryd.prog 197 #[.int .i64 x, .int .i64 y] w fun e w' => e = .returned (prV (x * y)) ∧ Below w.heap.size w w' := by
  have hm := fun W => mul64_any (IntKind.u64.wrap x) (IntKind.u64.wrap y) (by rw [IntKind.wrap_u64]; omega) (by rw [IntKind.wrap_u64]; omega) W
  obtain ⟨h, hh⟩ : ∃ h, h = IntKind.u64.wrap x * IntKind.u64.wrap y / 18446744073709551616 := ⟨_, rfl⟩
  obtain ⟨l, hl⟩ : ∃ l, l = IntKind.u64.wrap x * IntKind.u64.wrap y % 18446744073709551616 := ⟨_, rfl⟩
  rw [← hh, ← hl] at hm
  have HM := Lib.hid hm
  have HH := Lib.hid hh
  have HL := Lib.hid hl
  have HX := Lib.hid hx
  have HY := Lib.hid hy
  clear hh hl hm hx hy
  by_cases h1 : x < 0 <;> by_cases h2 : y < 0
  · go_enter Tryd.func197, Tryd.ntmps197
    go_wp2_with fail
    refine (HM.out _).mono ?_
    rintro e w1 ⟨he, rfl⟩
    subst he
    go_wp2_with fail
    refine bodyPost_ret (v := .agg #[.int .i64 (wrap64 (IntKind.u64.wrap (IntKind.u64.wrap (h - IntKind.u64.wrap y) - IntKind.u64.wrap x))), .int .u64 l]) (by simp [results, Tryd.results197, go_sem]) rfl ⟨ret_val (times_val HX.out HY.out HH.out HL.out ?_), below_alloc w _⟩
    rw [if_pos h1, if_pos h2]; simp only [IntKind.wrap_u64]; omega
  · go_enter Tryd.func197, Tryd.ntmps197
    go_wp2_with fail
    refine (HM.out _).mono ?_
    rintro e w1 ⟨he, rfl⟩
    subst he
    go_wp2_with fail
    refine bodyPost_ret (v := .agg #[.int .i64 (wrap64 (IntKind.u64.wrap (h - IntKind.u64.wrap y))), .int .u64 l]) (by simp [results, Tryd.results197, go_sem]) rfl ⟨ret_val (times_val HX.out HY.out HH.out HL.out ?_), below_alloc w _⟩
    rw [if_pos h1, if_neg (by omega)]; simp only [IntKind.wrap_u64]; omega
  · go_enter Tryd.func197, Tryd.ntmps197
    go_wp2_with fail
    refine (HM.out _).mono ?_
    rintro e w1 ⟨he, rfl⟩
    subst he
    go_wp2_with fail
    refine bodyPost_ret (v := .agg #[.int .i64 (wrap64 (IntKind.u64.wrap (h - IntKind.u64.wrap x))), .int .u64 l]) (by simp [results, Tryd.results197, go_sem]) rfl ⟨ret_val (times_val HX.out HY.out HH.out HL.out ?_), below_alloc w _⟩
    rw [if_neg (by omega), if_pos h2]; simp only [IntKind.wrap_u64]; omega
  · go_enter Tryd.func197, Tryd.ntmps197
    go_wp2_with fail
    refine (HM.out _).mono ?_
    rintro e w1 ⟨he, rfl⟩
    subst he
    go_wp2_with fail
    refine bodyPost_ret (v := .agg #[.int .i64 (wrap64 h), .int .u64 l]) (by simp [results, Tryd.results197, go_sem]) rfl ⟨ret_val (times_val HX.out HY.out HH.out HL.out ?_), below_alloc w _⟩
    rw [if_neg (by omega), if_neg (by omega)]; omega

theorem pbelow_any (p q : Int) (w : World) :
    Calls Tryd.prog 198 #[prV p, prV q] w fun e w' => e = .returned (.bool (decide (p < q))) ∧ Below w.heap.size w w' := by
  have h1 : p / 18446744073709551616 * 18446744073709551616 + p % 18446744073709551616 = p := by omega
  have h2 : q / 18446744073709551616 * 18446744073709551616 + q % 18446744073709551616 = q := by omega
  have h3 := Int.emod_nonneg p (show (18446744073709551616 : Int) ≠ 0 by omega)
  have h4 := Int.emod_lt_of_pos p (show (0 : Int) < 18446744073709551616 by omega)
  have h5 := Int.emod_nonneg q (show (18446744073709551616 : Int) ≠ 0 by omega)
  have h6 := Int.emod_lt_of_pos q (show (0 : Int) < 18446744073709551616 by omega)
  unfold prV
  generalize p / 18446744073709551616 = ph at *
  generalize p % 18446744073709551616 = pl at *
  generalize q / 18446744073709551616 = qh at *
  generalize q % 18446744073709551616 = ql at *
  by_cases he : ph = qh
  · have hd : decide (p < q) = decide (pl < ql) := by
      by_cases h : pl < ql
      · rw [decide_eq_true h, decide_eq_true]; omega
      · rw [decide_eq_false h, decide_eq_false]; omega
    have q1 : (ph == qh) = true := by simp [he]
    rw [hd]
    clear hd h1 h2 h3 h4 h5 h6 he
    go_enter Tryd.func198, Tryd.ntmps198
    go_wp2_with fail
    go_ret
    exact ⟨rfl, below_alloc2 w _ _⟩
  · have hd : decide (p < q) = decide (ph < qh) := by
      by_cases h : ph < qh
      · rw [decide_eq_true h, decide_eq_true]; omega
      · rw [decide_eq_false h, decide_eq_false]; omega
    have q1 : (ph == qh) = false := by simp [he]
    rw [hd]
    clear hd h1 h2 h3 h4 h5 h6 he
    go_enter Tryd.func198, Tryd.ntmps198
    go_wp2_with fail
    go_ret
    exact ⟨rfl, below_alloc2 w _ _⟩

theorem xor_all_i64 {n : Int} (h : I64 n) : bits .xor .i64 (-1) n = -1 - n := by
  show IntKind.i64.wrap ((BitVec.ofInt 64 (-1) ^^^ BitVec.ofInt 64 n).toNat : Int) = _
  have h1 : BitVec.ofInt 64 (-1) = BitVec.allOnes 64 := by decide
  rw [h1, BitVec.allOnes_xor, BitVec.toNat_not, BitVec.toNat_ofInt, IntKind.wrap_i64]
  unfold I64 at h
  omega
theorem xor_all_u64 {n : Int} (h : 0 ≤ n ∧ n < 18446744073709551616) : bits .xor .u64 IntKind.u64.max n = 18446744073709551615 - n := by
  show IntKind.u64.wrap ((BitVec.ofInt 64 IntKind.u64.max ^^^ BitVec.ofInt 64 n).toNat : Int) = _
  have h1 : BitVec.ofInt 64 IntKind.u64.max = BitVec.allOnes 64 := by decide
  rw [h1, BitVec.allOnes_xor, BitVec.toNat_not, BitVec.toNat_ofInt, IntKind.wrap_u64]
  omega
theorem inv_val {p : Int} (hp : Fits p) : (.agg #[.int .i64 (bits .xor .i64 (-1) (p / 18446744073709551616)), .int .u64 (bits .xor .u64 IntKind.u64.max (p % 18446744073709551616))] : Value) = prV (-1 - p) := by
  unfold Fits at hp
  rw [xor_all_i64 (by unfold I64; omega), xor_all_u64 (by omega)]
  unfold prV
  rw [show -1 - p / 18446744073709551616 = (-1 - p) / 18446744073709551616 by omega, show 18446744073709551615 - p % 18446744073709551616 = (-1 - p) % 18446744073709551616 by omega]
theorem inverted_any (p : Int) (w : World) (hp : Fits p) :
    Calls Tryd.prog 202 #[prV p] w fun e w' => e = .returned (prV (-1 - p)) ∧ Below w.heap.size w w' := by
  rw [← inv_val hp]
  clear hp
  unfold prV
  generalize p / 18446744073709551616 = ph at *
  generalize p % 18446744073709551616 = pl at *
  go_enter Tryd.func202, Tryd.ntmps202
  go_wp2_with fail
  all_goals first
    | (refine bodyPost_ret (v := .agg #[.int .i64 (bits .xor .i64 (-1) ph), .int .u64 (bits .xor .u64 IntKind.u64.max pl)]) (by simp [results, Tryd.results202, go_sem]) rfl ⟨rfl, below_alloc2 w _ _⟩)
    | (exfalso; rename_i h; exact absurd rfl h)
    | (exfalso; rename_i h; cases h)
    | (exfalso; simp_all [IntKind.signed])

/-- The model's entry for math/bits.Sub64. -/
def sub64E : Array Value → Sem Value := fun args => do
  let (x, y, b) ← Extern.MathBitsCarry.three "Sub64" args
  pure (Extern.MathBitsCarry.pair ((x + Extern.MathBitsCarry.m64 - y - b) % Extern.MathBitsCarry.m64) (if x < y + b then 1 else 0))
theorem run_sub64E (x y b : Nat) (hb : b ≤ 1) (w : World) :
    (sub64E #[.int .u64 x, .int .u64 y, .int .u64 b]).run Tryd.prog w =
      .ok (.tuple #[.int .u64 (((x + 18446744073709551616 - y - b) % 18446744073709551616 : Nat) : Int), .int .u64 ((if x < y + b then 1 else 0 : Nat) : Int)]) w := by
  have : b = 0 ∨ b = 1 := by omega
  rcases this with rfl | rfl <;> rfl
theorem sub64_call (y L B : Int) (hy : 0 ≤ y ∧ y < 18446744073709551616) (hL : L = -y % 18446744073709551616) (hB : B = if y = 0 then 0 else 1) (w : World) :
    (callFunc 206 #[.int .u64 0, .int .u64 y, .int .u64 0]).run Tryd.prog w = .ok (.value (.tuple #[.int .u64 L, .int .u64 B])) w := by
  obtain ⟨y, rfl⟩ := Int.eq_ofNat_of_zero_le hy.1
  have h := run_sub64E 0 y 0 (by omega) w
  rw [run_callFunc_extern Tryd.func206 (by kernel_rfl) (by kernel_rfl) (by kernel_rfl) (e := sub64E) (by kernel_rfl)]
  rw [show ((0 : Nat) : Int) = 0 from rfl] at h
  rw [h]
  have e1 : L = (((0 + 18446744073709551616 - y - 0) % 18446744073709551616 : Nat) : Int) := by rw [hL]; omega
  have e2 : B = ((if 0 < y + 0 then 1 else 0 : Nat) : Int) := by
    rw [hB]
    by_cases h0 : y = 0
    · subst h0; rfl
    · rw [if_neg (by omega), if_pos (by omega)]; rfl
  rw [e1, e2]
  rfl
theorem neg_val {p B : Int} (hp : Fits p) (hB : B = if p % 18446744073709551616 = 0 then 0 else 1) :
    (.agg #[.int .i64 (wrap64 (wrap64 (-(p / 18446744073709551616)) - wrap64 B)), .int .u64 (-(p % 18446744073709551616) % 18446744073709551616)] : Value) = prV (-p) := by
  unfold Fits at hp
  unfold prV
  have e : wrap64 (wrap64 (-(p / 18446744073709551616)) - wrap64 B) = -p / 18446744073709551616 := by
    unfold wrap64
    by_cases h : p % 18446744073709551616 = 0
    · rw [if_pos h] at hB; omega
    · rw [if_neg h] at hB; omega
  rw [e, show -(p % 18446744073709551616) % 18446744073709551616 = -p % 18446744073709551616 by omega]

set_option maxRecDepth 100000 in
theorem negative_any (p : Int) (w : World) (hp : Fits p) :
    Calls Tryd.prog 204 #[prV p] w fun e w' => e = .returned (prV (-p)) ∧ Below w.heap.size w w' := by
  obtain ⟨B, hB⟩ : ∃ B, B = if p % 18446744073709551616 = 0 then (0 : Int) else 1 := ⟨_, rfl⟩
  have hc := sub64_call (p % 18446744073709551616) _ B (by omega) rfl hB
  rw [← neg_val hp hB]
  clear hp hB
  unfold prV
  generalize -(p % 18446744073709551616) % 18446744073709551616 = nl at *
  generalize p % 18446744073709551616 = pl at *
  generalize p / 18446744073709551616 = ph at *
  go_enter Tryd.func204, Tryd.ntmps204
  go_wp2_with (simp only [hc])
  refine bodyPost_ret (v := .agg #[.int .i64 (wrap64 (wrap64 (-ph) - wrap64 B)), .int .u64 nl]) (by simp [results, Tryd.results204, go_sem]) rfl ⟨rfl, below_alloc2 w _ _⟩
end Go.Proofs.YtmbcejldifobnaaDoor.Sp

namespace Go.Proofs.YtmbcejldifobnaaDoor.Sp
open Go.RowKit
theorem bl_spec : ∀ (f x : Nat), 0 < x → x < 2 ^ f → 2 ^ (Lib.bitLenAux f x) ≤ 2 * x ∧ x < 2 ^ (Lib.bitLenAux f x) ∧ Lib.bitLenAux f x ≤ f
  | 0, x, h0, h => by omega
  | f + 1, x, h0, h => by
    unfold Lib.bitLenAux
    rw [if_neg (by omega), Nat.add_comm 1, Nat.pow_succ]
    by_cases h1 : x = 1
    · subst h1
      have : Lib.bitLenAux f (1 / 2) = 0 := by cases f <;> rfl
      rw [this]
      omega
    · obtain ⟨a, b, c⟩ := bl_spec f (x / 2) (by omega) (by rw [Nat.pow_succ] at h; omega)
      omega
theorem bl_shift {y : Nat} (h0 : 0 < y) (h : y < 18446744073709551616) : ∃ s : Nat, (64 - (Lib.bitLen y : Int)) = s ∧ s ≤ 63 ∧ 9223372036854775808 ≤ y * 2 ^ s ∧ y * 2 ^ s < 18446744073709551616 := by
  obtain ⟨a, b, c⟩ := bl_spec 64 y h0 h
  have hb : Lib.bitLen y = Lib.bitLenAux 64 y := rfl
  rw [hb]
  generalize Lib.bitLenAux 64 y = n at *
  have hn : n ≠ 0 := by rintro rfl; omega
  refine ⟨64 - n, by omega, by omega, ?_, ?_⟩
  · have e : (2 : Nat) ^ 64 = 2 ^ n * 2 ^ (64 - n) := by rw [← Nat.pow_add]; congr 1; omega
    have h1 : 2 ^ n * 2 ^ (64 - n) ≤ 2 * y * 2 ^ (64 - n) := Nat.mul_le_mul_right _ a
    rw [← e, Nat.mul_assoc] at h1
    have : (2 : Nat) ^ 64 = 18446744073709551616 := rfl
    omega
  · have e : (2 : Nat) ^ 64 = 2 ^ n * 2 ^ (64 - n) := by rw [← Nat.pow_add]; congr 1; omega
    have h1 : y * 2 ^ (64 - n) < 2 ^ n * 2 ^ (64 - n) := Nat.mul_lt_mul_of_pos_right b (Nat.pos_of_ne_zero (by simp))
    rw [← e] at h1
    exact h1

set_option maxRecDepth 100000 in
set_option maxHeartbeats 2000000 in
theorem div64_zero (lo y : Nat) (w : World) (hlo : lo < 18446744073709551616) (hy : 0 < y) (hy' : y < 18446744073709551616) :
    Calls Tryd.prog 203 #[.int .u64 0, .int .u64 (lo : Int), .int .u64 (y : Int)] w fun e w' => e = .returned (.tuple #[.int .u64 ((lo / y : Nat) : Int), .int .u64 ((lo % y : Nat) : Int)]) ∧ Below w.heap.size w w' := by
  have q1 : ((y : Int) == 0) = false := by simp; omega
  have q2 : ¬ (y : Int) ≤ 0 := by omega
  go_enter Tryd.func203, Tryd.ntmps203
  go_wp2_with fail
  go_quiet (fail)
  go_wp2_with fail
  have e1 : IntKind.u64.wrap ((lo : Int) / (y : Int)) = ((lo / y : Nat) : Int) := by
    have : lo / y ≤ lo := Nat.div_le_self _ _
    rw [← Int.natCast_ediv, IntKind.wrap_u64]
    generalize lo / y = d at *
    omega
  go_ret2
  refine ⟨?_, below_drewN w nq⟩
  rw [e1]
  rfl

/-- What Div64 makes of its arguments: all are shifted until the divisor has 64 bits. -/
structure Norm (hi lo y s Y Z y1 y0 U u v q r : Nat) : Prop where
  eY : IntKind.u64.wrap ((y : Int) * 2 ^ s) = (Y : Int)
  eZ : IntKind.u64.wrap ((lo : Int) * 2 ^ s) = (Z : Int)
  ey1 : (Y : Int) / 4294967296 = (y1 : Int)
  ey0 : bits .and .u64 (Y : Int) 4294967295 = (y0 : Int)
  eU : bits .or .u64 (IntKind.u64.wrap ((hi : Int) * 2 ^ s)) ((lo : Int) / 2 ^ (64 - s)) = (U : Int)
  eu : (Z : Int) / 4294967296 = (u : Int)
  ev : bits .and .u64 (Z : Int) 4294967295 = (v : Int)
  eq : IntKind.u64.wrap ((U : Int) / (y1 : Int)) = (q : Int)
  er : IntKind.u64.wrap ((U : Int) - IntKind.u64.wrap ((q : Int) * (y1 : Int))) = (r : Int)
  dig : DigIn Y y1 y0 U u
  start : Dig Y y1 y0 U u q r
  hv : v < 4294967296
  quo : (hi * 18446744073709551616 + lo) / y = (U * 18446744073709551616 + (u * 4294967296 + v)) / Y
  rem : (hi * 18446744073709551616 + lo) % y * 2 ^ s = (U * 18446744073709551616 + (u * 4294967296 + v)) % Y
theorem u64_nat (n : Nat) : IntKind.u64.wrap (n : Int) = ((n % 18446744073709551616 : Nat) : Int) := by rw [IntKind.wrap_u64]; omega
theorem u64_nat_of {n : Nat} (h : n < 18446744073709551616) : IntKind.u64.wrap (n : Int) = (n : Int) := by rw [IntKind.wrap_u64]; omega
theorem quo_u64 {U y1 : Nat} (hU : U < 18446744073709551616) : IntKind.u64.wrap ((U : Int) / (y1 : Int)) = ((U / y1 : Nat) : Int) := by
  rw [← Int.natCast_ediv]
  exact u64_nat_of (Nat.lt_of_le_of_lt (Nat.div_le_self _ _) hU)
theorem rem_u64 {U y1 : Nat} (hU : U < 18446744073709551616) : IntKind.u64.wrap ((U : Int) - IntKind.u64.wrap (((U / y1 : Nat) : Int) * (y1 : Int))) = ((U % y1 : Nat) : Int) := by
  have h := Nat.div_add_mod U y1
  rw [← Int.natCast_mul, Nat.mul_comm]
  generalize y1 * (U / y1) = A at *
  rw [u64_nat_of (by omega), show (U : Int) - (A : Int) = ((U % y1 : Nat) : Int) by omega]
  exact u64_nat_of (by omega)
theorem next_u64 {Y y1 y0 U u : Nat} (h : DigIn Y y1 y0 U u) (hY : Y < 18446744073709551616) :
    IntKind.u64.wrap (IntKind.u64.wrap (IntKind.u64.wrap ((U : Int) * 4294967296) + (u : Int)) - IntKind.u64.wrap ((((U * 4294967296 + u) / Y : Nat) : Int) * (Y : Int))) = (((U * 4294967296 + u) % Y : Nat) : Int) := by
  have h1 := Nat.div_add_mod (U * 4294967296 + u) Y
  have h2 := Nat.mod_lt (U * 4294967296 + u) h.pos
  rw [← Int.natCast_mul, Nat.mul_comm ((U * 4294967296 + u) / Y)]
  generalize Y * ((U * 4294967296 + u) / Y) = A at *
  generalize (U * 4294967296 + u) % Y = B at *
  simp only [IntKind.wrap_u64]
  omega
theorem norm_of {hi lo y s : Nat} (hs : s ≤ 63) (h1 : 9223372036854775808 ≤ y * 2 ^ s) (h2 : y * 2 ^ s < 18446744073709551616) (hy : hi < y) (hlo : lo < 18446744073709551616) :
    ∃ Y Z y1 y0 U u v q r, Norm hi lo y s Y Z y1 y0 U u v q r := by
  have hK : 0 < 2 ^ s := Nat.pos_of_ne_zero (by simp)
  have hKL : 2 ^ s * 2 ^ (64 - s) = 18446744073709551616 := by rw [← Nat.pow_add, show s + (64 - s) = 64 by omega]
  have hL : 0 < 2 ^ (64 - s) := Nat.pos_of_ne_zero (by simp)
  have c1 : ((2 : Int) ^ s) = ((2 ^ s : Nat) : Int) := by rw [Int.natCast_pow]; rfl
  have c2 : ((2 : Int) ^ (64 - s)) = ((2 ^ (64 - s) : Nat) : Int) := by rw [Int.natCast_pow]; rfl
  have hlt : lo / 2 ^ (64 - s) < 2 ^ s := by rw [Nat.div_lt_iff_lt_mul hL, hKL]; exact hlo
  have hhi : hi * 2 ^ s + 2 ^ s ≤ y * 2 ^ s := by rw [← Nat.succ_mul]; exact Nat.mul_le_mul_right _ hy
  have hU : hi * 2 ^ s + lo / 2 ^ (64 - s) < y * 2 ^ s := by omega
  have hN : (hi * 18446744073709551616 + lo) * 2 ^ s = (hi * 2 ^ s + lo / 2 ^ (64 - s)) * 18446744073709551616 + lo * 2 ^ s % 18446744073709551616 := by
    have a := Nat.div_add_mod (lo * 2 ^ s) 18446744073709551616
    have b : lo * 2 ^ s / 18446744073709551616 = lo / 2 ^ (64 - s) := by
      rw [← hKL, Nat.mul_comm (2 ^ s), Nat.mul_div_mul_right _ _ hK]
    rw [b] at a
    rw [Nat.add_mul, Nat.add_mul]
    have e : hi * 18446744073709551616 * 2 ^ s = hi * 2 ^ s * 18446744073709551616 := by rw [Nat.mul_assoc, Nat.mul_assoc, Nat.mul_comm 18446744073709551616]
    rw [e]
    omega
  have hd := shifted_div (n := hi * 18446744073709551616 + lo) (y := y) hK
  have hor : bits .or .u64 (IntKind.u64.wrap ((hi : Int) * 2 ^ s)) ((lo : Int) / 2 ^ (64 - s)) = ((hi * 2 ^ s + lo / 2 ^ (64 - s) : Nat) : Int) := by
    rw [c1, c2, ← Int.natCast_mul, ← Int.natCast_ediv, u64_nat_of (by omega), u64_or_nat _ _ (by omega) (by omega)]
    congr 1
    rw [Nat.mul_comm hi]
    exact (Nat.two_pow_add_eq_or_of_lt hlt hi).symm
  have hdig : DigIn (y * 2 ^ s) (y * 2 ^ s / 4294967296) (y * 2 ^ s % 4294967296) (hi * 2 ^ s + lo / 2 ^ (64 - s)) (lo * 2 ^ s % 18446744073709551616 / 4294967296) :=
    ⟨by omega, by omega, by omega, by omega, hU, by omega⟩
  refine ⟨y * 2 ^ s, lo * 2 ^ s % 18446744073709551616, y * 2 ^ s / 4294967296, y * 2 ^ s % 4294967296, hi * 2 ^ s + lo / 2 ^ (64 - s), lo * 2 ^ s % 18446744073709551616 / 4294967296, lo * 2 ^ s % 18446744073709551616 % 4294967296, _, _,
    ⟨?_, ?_, by omega, Mul64.maskN _ h2, hor, by omega, Mul64.maskN _ (by omega), quo_u64 (by omega), rem_u64 (by omega), hdig, Dig.start hdig, by omega, ?_, ?_⟩⟩
  · rw [c1, ← Int.natCast_mul]; exact u64_nat_of h2
  · rw [c1, ← Int.natCast_mul]; exact u64_nat _
  · rw [← hd.1, hN]; congr 2; omega
  · rw [← hd.2, hN]; congr 2; omega

/-- What stands between both digits. -/
structure Second (U u v Y y1 y0 T U2 q2 r2 : Nat) : Prop where
  eU2 : IntKind.u64.wrap (IntKind.u64.wrap (IntKind.u64.wrap ((U : Int) * 4294967296) + (u : Int)) - IntKind.u64.wrap ((T : Int) * (Y : Int))) = (U2 : Int)
  eq2 : IntKind.u64.wrap ((U2 : Int) / (y1 : Int)) = (q2 : Int)
  er2 : IntKind.u64.wrap ((U2 : Int) - IntKind.u64.wrap ((q2 : Int) * (y1 : Int))) = (r2 : Int)
  dig : DigIn Y y1 y0 U2 v
  start : Dig Y y1 y0 U2 v q2 r2
  hT : T < 4294967296
  quo : (U * 18446744073709551616 + (u * 4294967296 + v)) / Y = T * 4294967296 + (U2 * 4294967296 + v) / Y
  rem : (U * 18446744073709551616 + (u * 4294967296 + v)) % Y = (U2 * 4294967296 + v) % Y
theorem second_of {U u v Y y1 y0 T : Nat} (h : DigIn Y y1 y0 U u) (hY : Y < 18446744073709551616) (hv : v < 4294967296) (hT : T = (U * 4294967296 + u) / Y) : ∃ U2 q2 r2, Second U u v Y y1 y0 T U2 q2 r2 := by
  have hd : DigIn Y y1 y0 ((U * 4294967296 + u) % Y) v := ⟨h.hy, h.h0, h.h1, h.h2, Nat.mod_lt _ h.pos, hv⟩
  have ht := two_digits (U := U) (u := u) (v := v) h.pos
  have hl := h.lt
  subst hT
  exact ⟨_, _, _, next_u64 h hY, quo_u64 (by have := hd.hU; omega), rem_u64 (by have := hd.hU; omega), hd, Dig.start hd, hl, ht.1, ht.2⟩
theorem last_of {hi lo y s Y Z y1 y0 U u v q r T U2 q2 r2 T2 : Nat} (g : Norm hi lo y s Y Z y1 y0 U u v q r) (h : Second U u v Y y1 y0 T U2 q2 r2) (hT2 : T2 = (U2 * 4294967296 + v) / Y) :
    T2 < 4294967296 ∧ ∃ R : Nat, IntKind.u64.wrap (IntKind.u64.wrap (IntKind.u64.wrap ((U2 : Int) * 4294967296) + (v : Int)) - IntKind.u64.wrap ((T2 : Int) * (Y : Int))) = (R : Int) ∧
      ((T : Int) * 4294967296 + (T2 : Int) = (((hi * 18446744073709551616 + lo) / y : Nat) : Int)) ∧ ((R : Int) / 2 ^ s = (((hi * 18446744073709551616 + lo) % y : Nat) : Int)) := by
  have hK : 0 < 2 ^ s := Nat.pos_of_ne_zero (by simp)
  have c1 : ((2 : Int) ^ s) = ((2 ^ s : Nat) : Int) := by rw [Int.natCast_pow]; rfl
  have h1 := g.dig
  have hl := h.dig.lt
  subst hT2
  refine ⟨hl, _, next_u64 h.dig (by have := h1.hy; have := h1.h0; have := h1.h2; omega), ?_, ?_⟩
  · rw [g.quo, h.quo]; omega
  · rw [← h.rem, ← g.rem, c1, ← Int.natCast_ediv, Nat.mul_div_cancel _ hK]

set_option maxRecDepth 100000 in
set_option maxHeartbeats 2000000 in
theorem div64_any (hi lo y : Nat) (w : World) (h0 : 0 < hi) (hlo : lo < 18446744073709551616) (hy : hi < y) (hy' : y < 18446744073709551616) :
    Calls Tryd.prog 203 #[.int .u64 (hi : Int), .int .u64 (lo : Int), .int .u64 (y : Int)] w fun e w' => e = .returned (.tuple #[.int .u64 (((hi * 18446744073709551616 + lo) / y : Nat) : Int), .int .u64 (((hi * 18446744073709551616 + lo) % y : Nat) : Int)]) ∧ Below w.heap.size w w' := by
  have q1 : ((y : Int) == 0) = false := by simp; omega
  have q2 : ¬ (y : Int) ≤ (hi : Int) := by omega
  have q3 : ((hi : Int) == 0) = false := by simp; omega
  obtain ⟨QQ, hQQ⟩ : ∃ QQ : Nat, QQ = (hi * 18446744073709551616 + lo) / y := ⟨_, rfl⟩
  obtain ⟨RR, hRR⟩ : ∃ RR : Nat, RR = (hi * 18446744073709551616 + lo) % y := ⟨_, rfl⟩
  have hQl : QQ < 18446744073709551616 := by
    rw [hQQ, Nat.div_lt_iff_lt_mul (by omega)]
    omega
  rw [← hQQ, ← hRR]
  have HQQ := Lib.hid hQQ
  have HRR := Lib.hid hRR
  clear hQQ hRR
  have hlz := fun w => Tryd.bits_LeadingZeros64 (y : Int) w (by omega) (by omega)
  obtain ⟨s, hs, hs63, hb1, hb2⟩ := bl_shift (show 0 < y by omega) hy'
  rw [show ((y : Int)).toNat = y by omega, hs] at hlz
  obtain ⟨Y, Z, y1, y0, U, u, v, q, r, g⟩ := norm_of hs63 hb1 hb2 hy hlo
  have HLZ := Lib.hid hlz
  have G := Lib.hid g
  have eY := g.eY
  have eZ := g.eZ
  have ey1 := g.ey1
  have ey0 := g.ey0
  have eU := g.eU
  have eu := g.eu
  have ev := g.ev
  have eq := g.eq
  have er := g.er
  have hy1 : ¬ (y1 : Int) = 0 := by have := g.dig.h1; omega
  clear hlz hs g hb1 hb2
  go_enter Tryd.func203, Tryd.ntmps203
  go_wp2_with fail
  refine (HLZ.out _).mono ?_
  rintro e w1 ⟨he, hw⟩
  subst he hw
  go_wp2_with fail
  clear eY eZ ey0 eU eu ev eq er q1 q2 q3
  go_loop [15, 16] (fun q r => ∃ Q R : Nat, q = .int .u64 (Q : Int) ∧ r = .int .u64 (R : Int) ∧ Dig Y y1 y0 U u Q R) (fun q _ => (intOf q).toNat)
  case atStart => exact ⟨q, r, rfl, rfl, G.out.start⟩
  case round =>
    obtain ⟨Q, R, rfl, rfl, hd⟩ := hrel
    have hdr := hd.hr
    have hdq := hd.hq
    have hdh1 := (G.out.dig).h1
    have hdh2 := (G.out.dig).h2
    have hdu := (G.out.dig).hu
    by_cases hQ1 : Q < 4294967296
    · have tq1 : decide ((4294967296 : Int) ≤ (Q : Int)) = false := decide_eq_false (by omega)
      have hpb := hd.bound (G.out.dig) hQ1
      obtain ⟨P, hP⟩ : ∃ P : Nat, P = Q * y0 := ⟨_, rfl⟩
      have Pi : (Q : Int) * (y0 : Int) = (P : Int) := by rw [hP]; exact (Int.natCast_mul _ _).symm
      rw [← hP] at hpb
      by_cases hc1 : P ≤ 4294967296 * R + u
      · have tp1 : decide (4294967296 * (R : Int) + (u : Int) < (P : Int)) = false := decide_eq_false (by omega)
        have hT1 := hd.done (G.out.dig) (by rw [← hP]; exact hc1)
        clear hd hP hc1
        obtain ⟨U2, q2, r2, s2⟩ := second_of G.out.dig (by have := G.out.dig.hy; have := G.out.dig.h0; have := G.out.dig.h2; omega) G.out.hv hT1
        have S2 := Lib.hid s2
        have eU2 := s2.eU2
        have eq2 := s2.eq2
        have er2 := s2.er2
        clear s2 hT1
        go_wp2_with fail
        clear eU2 eq2 er2
        go_loop [18, 16] (fun q r => ∃ Q R : Nat, q = .int .u64 (Q : Int) ∧ r = .int .u64 (R : Int) ∧ Dig Y y1 y0 U2 v Q R) (fun q _ => (intOf q).toNat)
        case atStart => exact ⟨q2, r2, rfl, rfl, S2.out.start⟩
        case round =>
          obtain ⟨Q2, R2, rfl, rfl, d2⟩ := hrel
          have d2r := d2.hr
          have d2q := d2.hq
          have d2h1 := (S2.out.dig).h1
          have d2h2 := (S2.out.dig).h2
          have d2u := (S2.out.dig).hu
          by_cases hQ2 : Q2 < 4294967296
          · have tq2 : decide ((4294967296 : Int) ≤ (Q2 : Int)) = false := decide_eq_false (by omega)
            have hpb := d2.bound (S2.out.dig) hQ2
            obtain ⟨P2, hP⟩ : ∃ P : Nat, P = Q2 * y0 := ⟨_, rfl⟩
            have P2i : (Q2 : Int) * (y0 : Int) = (P2 : Int) := by rw [hP]; exact (Int.natCast_mul _ _).symm
            rw [← hP] at hpb
            by_cases hc2 : P2 ≤ 4294967296 * R2 + v
            · have tp2 : decide (4294967296 * (R2 : Int) + (v : Int) < (P2 : Int)) = false := decide_eq_false (by omega)
              have hT2 := d2.done (S2.out.dig) (by rw [← hP]; exact hc2)
              clear d2 hP hc2
              obtain ⟨hl2, R3, e1, e2, e3⟩ := last_of G.out S2.out hT2
              rw [← HQQ.out] at e2
              rw [← HRR.out] at e3
              have hl1 := S2.out.hT
              clear hT2
              go_wp2_with fail
              go_ret2
              exact ⟨rfl, Below.refl _ _⟩
            · have tp2 : decide (4294967296 * (R2 : Int) + (v : Int) < (P2 : Int)) = true := decide_eq_true (by omega)
              have hor : 4294967296 ≤ Q2 ∨ ¬ Q2 * y0 ≤ 4294967296 * R2 + v := .inr (by rw [← hP]; exact hc2)
              have hpos := (d2.next (S2.out.dig) hor).1
              obtain ⟨T2, eT2n⟩ : ∃ T : Nat, T = Q2 - 1 := ⟨_, rfl⟩
              have eT2 : (Q2 : Int) - 1 = (T2 : Int) := by omega
              obtain ⟨R2', eR2n⟩ : ∃ T : Nat, T = R2 + y1 := ⟨_, rfl⟩
              have eR2 : (R2 : Int) + (y1 : Int) = (R2' : Int) := by omega
              by_cases hr2 : R2' < 4294967296
              · have tr2 : decide ((4294967296 : Int) ≤ (R2' : Int)) = false := decide_eq_false (by omega)
                have hgo := d2.go (S2.out.dig) hor (by rw [← eR2n]; exact hr2)
                rw [← eT2n, ← eR2n] at hgo
                have HGO := Lib.hid hgo
                clear hgo d2 hP hor hc2 eT2n eR2n
                go_wp2_with fail
                first
                  | exact ⟨⟨T2, R2', rfl, rfl, HGO.out⟩, by simp [intOf]; omega⟩
                  | (go_roundw
                     case rel => exact ⟨T2, R2', rfl, rfl, HGO.out⟩
                     case measure => simp [intOf]; omega)
                  | fail
              · have tr2 : decide ((4294967296 : Int) ≤ (R2' : Int)) = true := decide_eq_true (by omega)
                have hT2 := d2.stop (S2.out.dig) hor (by rw [← eR2n]; exact hr2)
                rw [← eT2n] at hT2
                clear d2 hP hor hc2 eT2n eR2n
                obtain ⟨hl2, R3, e1, e2, e3⟩ := last_of G.out S2.out hT2
                rw [← HQQ.out] at e2
                rw [← HRR.out] at e3
                have hl1 := S2.out.hT
                clear hT2
                go_wp2_with fail
                go_ret2
                exact ⟨rfl, Below.refl _ _⟩
          · have tq2 : decide ((4294967296 : Int) ≤ (Q2 : Int)) = true := decide_eq_true (by omega)
            have hor : 4294967296 ≤ Q2 ∨ ¬ Q2 * y0 ≤ 4294967296 * R2 + v := .inl (by omega)
            have hpos := (d2.next (S2.out.dig) hor).1
            obtain ⟨T2, eT2n⟩ : ∃ T : Nat, T = Q2 - 1 := ⟨_, rfl⟩
            have eT2 : (Q2 : Int) - 1 = (T2 : Int) := by omega
            obtain ⟨R2', eR2n⟩ : ∃ T : Nat, T = R2 + y1 := ⟨_, rfl⟩
            have eR2 : (R2 : Int) + (y1 : Int) = (R2' : Int) := by omega
            by_cases hr2 : R2' < 4294967296
            · have tr2 : decide ((4294967296 : Int) ≤ (R2' : Int)) = false := decide_eq_false (by omega)
              have hgo := d2.go (S2.out.dig) hor (by rw [← eR2n]; exact hr2)
              rw [← eT2n, ← eR2n] at hgo
              have HGO := Lib.hid hgo
              clear hgo d2 hor eT2n eR2n
              go_wp2_with fail
              first
                | exact ⟨⟨T2, R2', rfl, rfl, HGO.out⟩, by simp [intOf]; omega⟩
                | (go_roundw
                   case rel => exact ⟨T2, R2', rfl, rfl, HGO.out⟩
                   case measure => simp [intOf]; omega)
                | fail
            · have tr2 : decide ((4294967296 : Int) ≤ (R2' : Int)) = true := decide_eq_true (by omega)
              have hT2 := d2.stop (S2.out.dig) hor (by rw [← eR2n]; exact hr2)
              rw [← eT2n] at hT2
              clear d2 hor eT2n eR2n
              obtain ⟨hl2, R3, e1, e2, e3⟩ := last_of G.out S2.out hT2
              rw [← HQQ.out] at e2
              rw [← HRR.out] at e3
              have hl1 := S2.out.hT
              clear hT2
              go_wp2_with fail
              go_ret2
              exact ⟨rfl, Below.refl _ _⟩
      · have tp1 : decide (4294967296 * (R : Int) + (u : Int) < (P : Int)) = true := decide_eq_true (by omega)
        have hor : 4294967296 ≤ Q ∨ ¬ Q * y0 ≤ 4294967296 * R + u := .inr (by rw [← hP]; exact hc1)
        have hpos := (hd.next (G.out.dig) hor).1
        obtain ⟨T1, eT1n⟩ : ∃ T : Nat, T = Q - 1 := ⟨_, rfl⟩
        have eT1 : (Q : Int) - 1 = (T1 : Int) := by omega
        obtain ⟨R1', eR1n⟩ : ∃ T : Nat, T = R + y1 := ⟨_, rfl⟩
        have eR1 : (R : Int) + (y1 : Int) = (R1' : Int) := by omega
        by_cases hr1 : R1' < 4294967296
        · have tr1 : decide ((4294967296 : Int) ≤ (R1' : Int)) = false := decide_eq_false (by omega)
          have hgo := hd.go (G.out.dig) hor (by rw [← eR1n]; exact hr1)
          rw [← eT1n, ← eR1n] at hgo
          have HGO := Lib.hid hgo
          clear hgo hd hP hor hc1 eT1n eR1n
          go_wp2_with fail
          first
            | exact ⟨⟨T1, R1', rfl, rfl, HGO.out⟩, by simp [intOf]; omega⟩
            | (go_roundw
               case rel => exact ⟨T1, R1', rfl, rfl, HGO.out⟩
               case measure => simp [intOf]; omega)
            | fail
        · have tr1 : decide ((4294967296 : Int) ≤ (R1' : Int)) = true := decide_eq_true (by omega)
          have hT1 := hd.stop (G.out.dig) hor (by rw [← eR1n]; exact hr1)
          rw [← eT1n] at hT1
          clear hd hP hor hc1 eT1n eR1n
          obtain ⟨U2, q2, r2, s2⟩ := second_of G.out.dig (by have := G.out.dig.hy; have := G.out.dig.h0; have := G.out.dig.h2; omega) G.out.hv hT1
          have S2 := Lib.hid s2
          have eU2 := s2.eU2
          have eq2 := s2.eq2
          have er2 := s2.er2
          clear s2 hT1
          go_wp2_with fail
          clear eU2 eq2 er2
          go_loop [18, 16] (fun q r => ∃ Q R : Nat, q = .int .u64 (Q : Int) ∧ r = .int .u64 (R : Int) ∧ Dig Y y1 y0 U2 v Q R) (fun q _ => (intOf q).toNat)
          case atStart => exact ⟨q2, r2, rfl, rfl, S2.out.start⟩
          case round =>
            obtain ⟨Q2, R2, rfl, rfl, d2⟩ := hrel
            have d2r := d2.hr
            have d2q := d2.hq
            have d2h1 := (S2.out.dig).h1
            have d2h2 := (S2.out.dig).h2
            have d2u := (S2.out.dig).hu
            by_cases hQ2 : Q2 < 4294967296
            · have tq2 : decide ((4294967296 : Int) ≤ (Q2 : Int)) = false := decide_eq_false (by omega)
              have hpb := d2.bound (S2.out.dig) hQ2
              obtain ⟨P2, hP⟩ : ∃ P : Nat, P = Q2 * y0 := ⟨_, rfl⟩
              have P2i : (Q2 : Int) * (y0 : Int) = (P2 : Int) := by rw [hP]; exact (Int.natCast_mul _ _).symm
              rw [← hP] at hpb
              by_cases hc2 : P2 ≤ 4294967296 * R2 + v
              · have tp2 : decide (4294967296 * (R2 : Int) + (v : Int) < (P2 : Int)) = false := decide_eq_false (by omega)
                have hT2 := d2.done (S2.out.dig) (by rw [← hP]; exact hc2)
                clear d2 hP hc2
                obtain ⟨hl2, R3, e1, e2, e3⟩ := last_of G.out S2.out hT2
                rw [← HQQ.out] at e2
                rw [← HRR.out] at e3
                have hl1 := S2.out.hT
                clear hT2
                go_wp2_with fail
                go_ret2
                exact ⟨rfl, Below.refl _ _⟩
              · have tp2 : decide (4294967296 * (R2 : Int) + (v : Int) < (P2 : Int)) = true := decide_eq_true (by omega)
                have hor : 4294967296 ≤ Q2 ∨ ¬ Q2 * y0 ≤ 4294967296 * R2 + v := .inr (by rw [← hP]; exact hc2)
                have hpos := (d2.next (S2.out.dig) hor).1
                obtain ⟨T2, eT2n⟩ : ∃ T : Nat, T = Q2 - 1 := ⟨_, rfl⟩
                have eT2 : (Q2 : Int) - 1 = (T2 : Int) := by omega
                obtain ⟨R2', eR2n⟩ : ∃ T : Nat, T = R2 + y1 := ⟨_, rfl⟩
                have eR2 : (R2 : Int) + (y1 : Int) = (R2' : Int) := by omega
                by_cases hr2 : R2' < 4294967296
                · have tr2 : decide ((4294967296 : Int) ≤ (R2' : Int)) = false := decide_eq_false (by omega)
                  have hgo := d2.go (S2.out.dig) hor (by rw [← eR2n]; exact hr2)
                  rw [← eT2n, ← eR2n] at hgo
                  have HGO := Lib.hid hgo
                  clear hgo d2 hP hor hc2 eT2n eR2n
                  go_wp2_with fail
                  first
                    | exact ⟨⟨T2, R2', rfl, rfl, HGO.out⟩, by simp [intOf]; omega⟩
                    | (go_roundw
                       case rel => exact ⟨T2, R2', rfl, rfl, HGO.out⟩
                       case measure => simp [intOf]; omega)
                    | fail
                · have tr2 : decide ((4294967296 : Int) ≤ (R2' : Int)) = true := decide_eq_true (by omega)
                  have hT2 := d2.stop (S2.out.dig) hor (by rw [← eR2n]; exact hr2)
                  rw [← eT2n] at hT2
                  clear d2 hP hor hc2 eT2n eR2n
                  obtain ⟨hl2, R3, e1, e2, e3⟩ := last_of G.out S2.out hT2
                  rw [← HQQ.out] at e2
                  rw [← HRR.out] at e3
                  have hl1 := S2.out.hT
                  clear hT2
                  go_wp2_with fail
                  go_ret2
                  exact ⟨rfl, Below.refl _ _⟩
            · have tq2 : decide ((4294967296 : Int) ≤ (Q2 : Int)) = true := decide_eq_true (by omega)
              have hor : 4294967296 ≤ Q2 ∨ ¬ Q2 * y0 ≤ 4294967296 * R2 + v := .inl (by omega)
              have hpos := (d2.next (S2.out.dig) hor).1
              obtain ⟨T2, eT2n⟩ : ∃ T : Nat, T = Q2 - 1 := ⟨_, rfl⟩
              have eT2 : (Q2 : Int) - 1 = (T2 : Int) := by omega
              obtain ⟨R2', eR2n⟩ : ∃ T : Nat, T = R2 + y1 := ⟨_, rfl⟩
              have eR2 : (R2 : Int) + (y1 : Int) = (R2' : Int) := by omega
              by_cases hr2 : R2' < 4294967296
              · have tr2 : decide ((4294967296 : Int) ≤ (R2' : Int)) = false := decide_eq_false (by omega)
                have hgo := d2.go (S2.out.dig) hor (by rw [← eR2n]; exact hr2)
                rw [← eT2n, ← eR2n] at hgo
                have HGO := Lib.hid hgo
                clear hgo d2 hor eT2n eR2n
                go_wp2_with fail
                first
                  | exact ⟨⟨T2, R2', rfl, rfl, HGO.out⟩, by simp [intOf]; omega⟩
                  | (go_roundw
                     case rel => exact ⟨T2, R2', rfl, rfl, HGO.out⟩
                     case measure => simp [intOf]; omega)
                  | fail
              · have tr2 : decide ((4294967296 : Int) ≤ (R2' : Int)) = true := decide_eq_true (by omega)
                have hT2 := d2.stop (S2.out.dig) hor (by rw [← eR2n]; exact hr2)
                rw [← eT2n] at hT2
                clear d2 hor eT2n eR2n
                obtain ⟨hl2, R3, e1, e2, e3⟩ := last_of G.out S2.out hT2
                rw [← HQQ.out] at e2
                rw [← HRR.out] at e3
                have hl1 := S2.out.hT
                clear hT2
                go_wp2_with fail
                go_ret2
                exact ⟨rfl, Below.refl _ _⟩
    · have tq1 : decide ((4294967296 : Int) ≤ (Q : Int)) = true := decide_eq_true (by omega)
      have hor : 4294967296 ≤ Q ∨ ¬ Q * y0 ≤ 4294967296 * R + u := .inl (by omega)
      have hpos := (hd.next (G.out.dig) hor).1
      obtain ⟨T1, eT1n⟩ : ∃ T : Nat, T = Q - 1 := ⟨_, rfl⟩
      have eT1 : (Q : Int) - 1 = (T1 : Int) := by omega
      obtain ⟨R1', eR1n⟩ : ∃ T : Nat, T = R + y1 := ⟨_, rfl⟩
      have eR1 : (R : Int) + (y1 : Int) = (R1' : Int) := by omega
      by_cases hr1 : R1' < 4294967296
      · have tr1 : decide ((4294967296 : Int) ≤ (R1' : Int)) = false := decide_eq_false (by omega)
        have hgo := hd.go (G.out.dig) hor (by rw [← eR1n]; exact hr1)
        rw [← eT1n, ← eR1n] at hgo
        have HGO := Lib.hid hgo
        clear hgo hd hor eT1n eR1n
        go_wp2_with fail
        first
          | exact ⟨⟨T1, R1', rfl, rfl, HGO.out⟩, by simp [intOf]; omega⟩
          | (go_roundw
             case rel => exact ⟨T1, R1', rfl, rfl, HGO.out⟩
             case measure => simp [intOf]; omega)
          | fail
      · have tr1 : decide ((4294967296 : Int) ≤ (R1' : Int)) = true := decide_eq_true (by omega)
        have hT1 := hd.stop (G.out.dig) hor (by rw [← eR1n]; exact hr1)
        rw [← eT1n] at hT1
        clear hd hor eT1n eR1n
        obtain ⟨U2, q2, r2, s2⟩ := second_of G.out.dig (by have := G.out.dig.hy; have := G.out.dig.h0; have := G.out.dig.h2; omega) G.out.hv hT1
        have S2 := Lib.hid s2
        have eU2 := s2.eU2
        have eq2 := s2.eq2
        have er2 := s2.er2
        clear s2 hT1
        go_wp2_with fail
        clear eU2 eq2 er2
        go_loop [18, 16] (fun q r => ∃ Q R : Nat, q = .int .u64 (Q : Int) ∧ r = .int .u64 (R : Int) ∧ Dig Y y1 y0 U2 v Q R) (fun q _ => (intOf q).toNat)
        case atStart => exact ⟨q2, r2, rfl, rfl, S2.out.start⟩
        case round =>
          obtain ⟨Q2, R2, rfl, rfl, d2⟩ := hrel
          have d2r := d2.hr
          have d2q := d2.hq
          have d2h1 := (S2.out.dig).h1
          have d2h2 := (S2.out.dig).h2
          have d2u := (S2.out.dig).hu
          by_cases hQ2 : Q2 < 4294967296
          · have tq2 : decide ((4294967296 : Int) ≤ (Q2 : Int)) = false := decide_eq_false (by omega)
            have hpb := d2.bound (S2.out.dig) hQ2
            obtain ⟨P2, hP⟩ : ∃ P : Nat, P = Q2 * y0 := ⟨_, rfl⟩
            have P2i : (Q2 : Int) * (y0 : Int) = (P2 : Int) := by rw [hP]; exact (Int.natCast_mul _ _).symm
            rw [← hP] at hpb
            by_cases hc2 : P2 ≤ 4294967296 * R2 + v
            · have tp2 : decide (4294967296 * (R2 : Int) + (v : Int) < (P2 : Int)) = false := decide_eq_false (by omega)
              have hT2 := d2.done (S2.out.dig) (by rw [← hP]; exact hc2)
              clear d2 hP hc2
              obtain ⟨hl2, R3, e1, e2, e3⟩ := last_of G.out S2.out hT2
              rw [← HQQ.out] at e2
              rw [← HRR.out] at e3
              have hl1 := S2.out.hT
              clear hT2
              go_wp2_with fail
              go_ret2
              exact ⟨rfl, Below.refl _ _⟩
            · have tp2 : decide (4294967296 * (R2 : Int) + (v : Int) < (P2 : Int)) = true := decide_eq_true (by omega)
              have hor : 4294967296 ≤ Q2 ∨ ¬ Q2 * y0 ≤ 4294967296 * R2 + v := .inr (by rw [← hP]; exact hc2)
              have hpos := (d2.next (S2.out.dig) hor).1
              obtain ⟨T2, eT2n⟩ : ∃ T : Nat, T = Q2 - 1 := ⟨_, rfl⟩
              have eT2 : (Q2 : Int) - 1 = (T2 : Int) := by omega
              obtain ⟨R2', eR2n⟩ : ∃ T : Nat, T = R2 + y1 := ⟨_, rfl⟩
              have eR2 : (R2 : Int) + (y1 : Int) = (R2' : Int) := by omega
              by_cases hr2 : R2' < 4294967296
              · have tr2 : decide ((4294967296 : Int) ≤ (R2' : Int)) = false := decide_eq_false (by omega)
                have hgo := d2.go (S2.out.dig) hor (by rw [← eR2n]; exact hr2)
                rw [← eT2n, ← eR2n] at hgo
                have HGO := Lib.hid hgo
                clear hgo d2 hP hor hc2 eT2n eR2n
                go_wp2_with fail
                first
                  | exact ⟨⟨T2, R2', rfl, rfl, HGO.out⟩, by simp [intOf]; omega⟩
                  | (go_roundw
                     case rel => exact ⟨T2, R2', rfl, rfl, HGO.out⟩
                     case measure => simp [intOf]; omega)
                  | fail
              · have tr2 : decide ((4294967296 : Int) ≤ (R2' : Int)) = true := decide_eq_true (by omega)
                have hT2 := d2.stop (S2.out.dig) hor (by rw [← eR2n]; exact hr2)
                rw [← eT2n] at hT2
                clear d2 hP hor hc2 eT2n eR2n
                obtain ⟨hl2, R3, e1, e2, e3⟩ := last_of G.out S2.out hT2
                rw [← HQQ.out] at e2
                rw [← HRR.out] at e3
                have hl1 := S2.out.hT
                clear hT2
                go_wp2_with fail
                go_ret2
                exact ⟨rfl, Below.refl _ _⟩
          · have tq2 : decide ((4294967296 : Int) ≤ (Q2 : Int)) = true := decide_eq_true (by omega)
            have hor : 4294967296 ≤ Q2 ∨ ¬ Q2 * y0 ≤ 4294967296 * R2 + v := .inl (by omega)
            have hpos := (d2.next (S2.out.dig) hor).1
            obtain ⟨T2, eT2n⟩ : ∃ T : Nat, T = Q2 - 1 := ⟨_, rfl⟩
            have eT2 : (Q2 : Int) - 1 = (T2 : Int) := by omega
            obtain ⟨R2', eR2n⟩ : ∃ T : Nat, T = R2 + y1 := ⟨_, rfl⟩
            have eR2 : (R2 : Int) + (y1 : Int) = (R2' : Int) := by omega
            by_cases hr2 : R2' < 4294967296
            · have tr2 : decide ((4294967296 : Int) ≤ (R2' : Int)) = false := decide_eq_false (by omega)
              have hgo := d2.go (S2.out.dig) hor (by rw [← eR2n]; exact hr2)
              rw [← eT2n, ← eR2n] at hgo
              have HGO := Lib.hid hgo
              clear hgo d2 hor eT2n eR2n
              go_wp2_with fail
              first
                | exact ⟨⟨T2, R2', rfl, rfl, HGO.out⟩, by simp [intOf]; omega⟩
                | (go_roundw
                   case rel => exact ⟨T2, R2', rfl, rfl, HGO.out⟩
                   case measure => simp [intOf]; omega)
                | fail
            · have tr2 : decide ((4294967296 : Int) ≤ (R2' : Int)) = true := decide_eq_true (by omega)
              have hT2 := d2.stop (S2.out.dig) hor (by rw [← eR2n]; exact hr2)
              rw [← eT2n] at hT2
              clear d2 hor eT2n eR2n
              obtain ⟨hl2, R3, e1, e2, e3⟩ := last_of G.out S2.out hT2
              rw [← HQQ.out] at e2
              rw [← HRR.out] at e3
              have hl1 := S2.out.hT
              clear hT2
              go_wp2_with fail
              go_ret2
              exact ⟨rfl, Below.refl _ _⟩
end Go.Proofs.YtmbcejldifobnaaDoor.Sp

namespace Go.Proofs.YtmbcejldifobnaaDoor.Sp
open Go.RowKit
theorem div64_all (hi lo y : Nat) (w : World) (hlo : lo < 18446744073709551616) (hy : hi < y) (hy' : y < 18446744073709551616) :
    Calls Tryd.prog 203 #[.int .u64 (hi : Int), .int .u64 (lo : Int), .int .u64 (y : Int)] w fun e w' => e = .returned (.tuple #[.int .u64 (((hi * 18446744073709551616 + lo) / y : Nat) : Int), .int .u64 (((hi * 18446744073709551616 + lo) % y : Nat) : Int)]) ∧ Below w.heap.size w w' := by
  by_cases h : hi = 0
  · subst h
    have := div64_zero lo y w hlo (by omega) hy'
    rw [Nat.zero_mul, Nat.zero_add]
    exact this
  · exact div64_any hi lo y w (by omega) hlo hy hy'

theorem split_div {h l d B : Nat} (hd : 0 < d) : (h * B + l) / d = h / d * B + (h % d * B + l) / d := by
  have h1 := Nat.div_add_mod h d
  have e2 : h * B + l = h % d * B + l + d * (h / d * B) := by
    rw [← Nat.mul_assoc]
    have : h * B = (d * (h / d) + h % d) * B := by rw [h1]
    rw [this, Nat.add_mul]
    generalize d * (h / d) * B = A
    generalize h % d * B = C
    omega
  rw [e2, Nat.add_mul_div_left _ _ hd, Nat.add_comm]
theorem down_val_gen {h l d B : Nat} (hd : 0 < d) (hl : l < B) :
    ((h * B + l : Nat) : Int) / (d : Int) / (B : Int) = ((h / d : Nat) : Int) ∧
    ((h * B + l : Nat) : Int) / (d : Int) % (B : Int) = (((h % d * B + l) / d : Nat) : Int) := by
  have e := split_div (h := h) (l := l) (B := B) hd
  have hq : (h % d * B + l) / d < B := by
    have h1 := Nat.mod_lt h hd
    rw [Nat.div_lt_iff_lt_mul hd]
    have h2 : (h % d + 1) * B ≤ d * B := Nat.mul_le_mul_right _ h1
    rw [Nat.add_mul, Nat.one_mul, Nat.mul_comm d] at h2
    omega
  rw [← Int.natCast_ediv, e, ← Int.natCast_ediv, ← Int.natCast_emod, Nat.add_comm, Nat.add_mul_div_right _ _ (by omega), Nat.div_eq_of_lt hq, Nat.zero_add, Nat.add_mul_mod_self_right, Nat.mod_eq_of_lt hq]
  exact ⟨rfl, rfl⟩
theorem down_pos_val {h l d : Nat} (hd : 0 < d) (hl : l < 18446744073709551616) :
    ((h * 18446744073709551616 + l : Nat) : Int) / (d : Int) / 18446744073709551616 = ((h / d : Nat) : Int) ∧
    ((h * 18446744073709551616 + l : Nat) : Int) / (d : Int) % 18446744073709551616 = (((h % d * 18446744073709551616 + l) / d : Nat) : Int) :=
  down_val_gen (B := 18446744073709551616) hd hl

set_option maxRecDepth 100000 in
theorem down_pos (h l d : Nat) (w : World) (hh : h < 9223372036854775808) (hl : l < 18446744073709551616) (hd : 0 < d) (hd' : d < 9223372036854775808) :
    Calls Tryd.prog 199 #[.agg #[.int .i64 (h : Int), .int .u64 (l : Int)], .int .i64 (d : Int)] w fun e w' => e = .returned (.agg #[.int .i64 ((h / d : Nat) : Int), .int .u64 (((h % d * 18446744073709551616 + l) / d : Nat) : Int)]) ∧ Below w.heap.size w w' := by
  have h1 := fun w => div64_all 0 h d w (by omega) hd (by omega)
  rw [Nat.zero_mul, Nat.zero_add] at h1
  have h2 := fun w => div64_all (h % d) l d w hl (Nat.mod_lt _ hd) (by omega)
  have hq : h / d < 9223372036854775808 := Nat.lt_of_le_of_lt (Nat.div_le_self _ _) hh
  generalize (h % d * 18446744073709551616 + l) % d = r2 at *
  generalize (h % d * 18446744073709551616 + l) / d = q2 at *
  generalize h % d = r1 at *
  generalize h / d = q1 at *
  have H1 := Lib.hid h1
  have H2 := Lib.hid h2
  clear h1 h2
  have t0 : ¬ (h : Int) < 0 := by omega
  go_enter Tryd.func199, Tryd.ntmps199
  go_wp2_with fail
  refine (H1.out _).mono ?_
  rintro e w1 ⟨he, hb⟩
  subst he
  have F := Fm.of2 hb
  have c0 := F.k0.c0
  have c1 := F.k0.c1
  have F1 := Lib.hid F
  clear hb F
  go_wp2_with fail
  refine (H2.out _).mono ?_
  rintro e w2 ⟨he, hb⟩
  subst he
  have F2 := F1.out.later hb
  obtain ⟨p, q, hr⟩ := F2.res
  have c30 := hr.c0
  have c31 := hr.c1
  have f30 := hr.f0
  have f31 := hr.f1
  have FB := Lib.hid F2
  clear hb hr F2
  go_wp2_with fail
  refine bodyPost_ret (v := .agg #[.int .i64 (q1 : Int), .int .u64 (q2 : Int)]) (by simp [results, Tryd.results199, c30, c31, go_sem]) rfl ⟨rfl, (FB.out.set _ _).bl⟩

theorem prV_down {p d : Int} {h l k : Nat} (hp : p = (h * 18446744073709551616 + l : Nat)) (hk : d = k) (h0 : 0 < k) (hl : l < 18446744073709551616) :
    prV (p / d) = .agg #[.int .i64 ((h / k : Nat) : Int), .int .u64 (((h % k * 18446744073709551616 + l) / k : Nat) : Int)] := by
  obtain ⟨e1, e2⟩ := down_pos_val (h := h) (l := l) h0 hl
  subst hp hk
  unfold prV
  rw [e1, e2]
theorem neg_div {p d : Int} (hd : 0 < d) : -1 - (-1 - p) / d = p / d := by
  have h1 := Int.emod_add_mul_ediv p d
  have h2 := Int.emod_nonneg p (Int.ne_of_gt hd)
  have h3 := Int.emod_lt_of_pos p hd
  have key : -1 - p / d = (-1 - p) / d := by
    have := ((Int.ediv_emod_unique (a := -1 - p) (r := d - 1 - p % d) (q := -1 - p / d) hd).2 ⟨by rw [Int.mul_sub, Int.mul_neg]; omega, by omega, by omega⟩).1
    exact this.symm
  omega
theorem fits_div {p d : Int} (hp : Fits p) (hd : 0 < d) : Fits (p / d) := by
  have := ediv_le' (a := p) hd
  unfold Fits at *
  omega
theorem down_nonneg (p d : Int) (w : World) (hp : Fits p) (h0 : 0 ≤ p) (hd : 1 ≤ d ∧ d ≤ 9223372036854775807) :
    Calls Tryd.prog 199 #[prV p, .int .i64 d] w fun e w' => e = .returned (prV (p / d)) ∧ Below w.heap.size w w' := by
  unfold Fits at hp
  obtain ⟨k, rfl⟩ := Int.eq_ofNat_of_zero_le (show 0 ≤ d by omega)
  obtain ⟨n, rfl⟩ := Int.eq_ofNat_of_zero_le h0
  have e := prV_down (p := (n : Int)) (d := (k : Int)) (h := n / 18446744073709551616) (l := n % 18446744073709551616) (k := k) (by rw [Nat.div_add_mod']) rfl (by omega) (by omega)
  rw [e]
  have := down_pos (n / 18446744073709551616) (n % 18446744073709551616) k w (by omega) (by omega) (by omega) (by omega)
  exact this

set_option maxRecDepth 100000 in
theorem down_any (p d : Int) (w : World) (hp : Fits p) (hd : 1 ≤ d ∧ d ≤ 9223372036854775807) :
    Calls Tryd.prog 199 #[prV p, .int .i64 d] w fun e w' => e = .returned (prV (p / d)) ∧ Below w.heap.size w w' := by
  rcases Int.lt_or_le p 0 with h0 | h0
  · have h1 := fun w => inverted_any p w hp
    have f1 : Fits (-1 - p) := by unfold Fits at *; omega
    have h2 := fun w => down_nonneg (-1 - p) d w f1 (by omega) hd
    have h3 := fun w => inverted_any ((-1 - p) / d) w (fits_div f1 (by omega))
    rw [neg_div (by omega)] at h3
    have t0 : p / 18446744073709551616 < 0 := by unfold Fits at hp; omega
    unfold prV at *
    generalize p / 18446744073709551616 = ph at *
    generalize p % 18446744073709551616 = pl at *
    generalize p / d / 18446744073709551616 = qh at *
    generalize p / d % 18446744073709551616 = ql at *
    generalize (-1 - p) / d / 18446744073709551616 = rh at *
    generalize (-1 - p) / d % 18446744073709551616 = rl at *
    generalize (-1 - p) / 18446744073709551616 = nh at *
    generalize (-1 - p) % 18446744073709551616 = nl at *
    have H1 := Lib.hid h1
    have H2 := Lib.hid h2
    have H3 := Lib.hid h3
    clear h1 h2 h3 hp f1 h0 hd
    go_enter Tryd.func199, Tryd.ntmps199
    go_wp2_with fail
    refine (H1.out _).mono ?_
    rintro e w1 ⟨he, hb⟩
    subst he
    have F1 := Lib.hid (Fm.of2 hb)
    clear hb
    go_wp2_with fail
    refine (H2.out _).mono ?_
    rintro e w2 ⟨he, hb⟩
    subst he
    have F2 := Lib.hid (F1.out.later hb)
    clear hb
    go_wp2_with fail
    refine (H3.out _).mono ?_
    rintro e w3 ⟨he, hb⟩
    subst he
    have F3 := F2.out.later hb
    obtain ⟨p, q, hr⟩ := F3.res
    have c30 := hr.c0
    have c31 := hr.c1
    have f30 := hr.f0
    have f31 := hr.f1
    have FB := Lib.hid F3
    clear hb hr F3
    go_wp2_with fail
    refine bodyPost_ret (v := .agg #[.int .i64 qh, .int .u64 ql]) (by simp [results, Tryd.results199, c30, c31, go_sem]) rfl ⟨rfl, (FB.out.set _ _).bl⟩
  · exact down_nonneg p d w hp h0 hd

set_option maxRecDepth 100000 in
theorem up_any (p d : Int) (w : World) (hp : Fits p) (hd : 1 ≤ d ∧ d ≤ 9223372036854775807) :
    Calls Tryd.prog 201 #[prV p, .int .i64 d] w fun e w' => e = .returned (prV (upI p d)) ∧ Below w.heap.size w w' := by
  have h1 := fun w => negative_any p w hp
  have f1 : Fits (-p) := by unfold Fits at *; omega
  have h2 := fun w => down_any (-p) d w f1 hd
  have h3 := fun w => negative_any (-p / d) w (fits_div f1 (by omega))
  unfold upI
  unfold prV at *
  generalize p / 18446744073709551616 = ph at *
  generalize p % 18446744073709551616 = pl at *
  generalize -(-p / d) / 18446744073709551616 = qh at *
  generalize -(-p / d) % 18446744073709551616 = ql at *
  generalize -p / d / 18446744073709551616 = rh at *
  generalize -p / d % 18446744073709551616 = rl at *
  generalize -p / 18446744073709551616 = nh at *
  generalize -p % 18446744073709551616 = nl at *
  have H1 := Lib.hid h1
  have H2 := Lib.hid h2
  have H3 := Lib.hid h3
  clear h1 h2 h3 hp f1 hd
  go_enter Tryd.func201, Tryd.ntmps201
  go_wp2_with fail
  refine (H1.out _).mono ?_
  rintro e w1 ⟨he, hb⟩
  subst he
  have F1 := Lib.hid (Fm.of2 hb)
  clear hb
  go_wp2_with fail
  refine (H2.out _).mono ?_
  rintro e w2 ⟨he, hb⟩
  subst he
  have F2 := Lib.hid (F1.out.later hb)
  clear hb
  go_wp2_with fail
  refine (H3.out _).mono ?_
  rintro e w3 ⟨he, hb⟩
  subst he
  have F3 := F2.out.later hb
  obtain ⟨p, q, hr⟩ := F3.res
  have c30 := hr.c0
  have c31 := hr.c1
  have f30 := hr.f0
  have f31 := hr.f1
  have FB := Lib.hid F3
  clear hb hr F3
  go_wp2_with fail
  refine bodyPost_ret (v := .agg #[.int .i64 qh, .int .u64 ql]) (by simp [results, Tryd.results201, c30, c31, go_sem]) rfl ⟨rfl, (FB.out.set _ _).bl⟩

theorem bound_yes {p : Int} (hp : I64 p) : wrap64 (p % 18446744073709551616) = p := by
  unfold I64 at hp; unfold wrap64; omega
set_option maxRecDepth 100000 in
theorem bound_any (p : Int) (w : World) (hp : Fits p) :
    Calls Tryd.prog 200 #[prV p] w fun e w' => e = .returned (.tuple #[.int .i64 (if okB p then p else 0), .bool (okB p)]) ∧ Below w.heap.size w w' := by
  have hI : I64 (wrap64 (p % 18446744073709551616)) := by unfold I64 wrap64; omega
  have h1 := fun w => times_any (wrap64 (p % 18446744073709551616)) 1 w hI (by unfold I64; omega)
  rw [Int.mul_one] at h1
  have h2 := fun w => allowed_any (wrap64 (p % 18446744073709551616)) w hI
  obtain ⟨n, hn⟩ : ∃ n, n = wrap64 (p % 18446744073709551616) := ⟨_, rfl⟩
  rw [← hn] at h1 h2
  have hq : wrap64 (p % 18446744073709551616) = n := hn.symm
  by_cases he : n = p
  · rw [he] at h1 h2 hq
    obtain ⟨m, hm⟩ : ∃ m, m = if okB p = true then p else 0 := ⟨_, rfl⟩
    rw [← hm]
    have hyes : okB p = true → m = p := fun h => by rw [hm, if_pos h]
    have hno : okB p = false → m = 0 := fun h => by rw [hm, h]; rfl
    unfold prV at *
    generalize okB p = b at *
    clear hm hn hI hp he
    generalize p / 18446744073709551616 = ph at *
    generalize p % 18446744073709551616 = pl at *
    have hb0 := Km.new1 w (.int .i64 ph) (.int .u64 pl) 221
    have HB0 := Lib.hid hb0
    have H1 := Lib.hid h1
    have H2 := Lib.hid h2
    clear hb0 h1 h2
    cases b
    · obtain rfl := hno rfl
      clear hyes hno
      go_enter Tryd.func200, Tryd.ntmps200
      go_wp2_with fail
      have hk := HB0.out
      first
        | (go_region_held3 (fun w' => Km w [(w.heap.size, .int .i64 ph, .int .u64 pl)] w' ∧ w'.cell? ⟨w.heap.size, 0, none⟩ = some (.int .i64 ph) ∧ w'.cell? ⟨w.heap.size, 1, none⟩ = some (.int .u64 pl))
                   (refine ⟨?_, ?_, ?_⟩ <;> first | assumption | (exact Km.drew ‹_›) | go_keep)
                   (first
                     | (go_at_call 197; refine Calls.mono (H1.out _) ?_; clear H1; rintro e w2 ⟨he, hb2⟩; subst he; have hS2 := Km.later (by first | assumption | exact Km.drew ‹_›) hb2; have c10' := hS2.k0.c0; have c11' := hS2.k0.c1)
                     | (go_at_call 188; refine Calls.mono (H2.out _) ?_; rintro e w3 ⟨he, hb3⟩; subst he hb3)))
        | fail
      all_goals
        go_wp2_with fail
        go_ret2
        exact ⟨rfl, Km.bl (by first | assumption | exact Km.drew ‹_›)⟩
    · obtain rfl := hyes rfl
      clear hyes hno
      go_enter Tryd.func200, Tryd.ntmps200
      go_wp2_with fail
      have hk := HB0.out
      first
        | (go_region_held3 (fun w' => Km w [(w.heap.size, .int .i64 ph, .int .u64 pl)] w' ∧ w'.cell? ⟨w.heap.size, 0, none⟩ = some (.int .i64 ph) ∧ w'.cell? ⟨w.heap.size, 1, none⟩ = some (.int .u64 pl))
                   (refine ⟨?_, ?_, ?_⟩ <;> first | assumption | (exact Km.drew ‹_›) | go_keep)
                   (first
                     | (go_at_call 197; refine Calls.mono (H1.out _) ?_; clear H1; rintro e w2 ⟨he, hb2⟩; subst he; have hS2 := Km.later (by first | assumption | exact Km.drew ‹_›) hb2; have c10' := hS2.k0.c0; have c11' := hS2.k0.c1)
                     | (go_at_call 188; refine Calls.mono (H2.out _) ?_; rintro e w3 ⟨he, hb3⟩; subst he hb3)))
        | fail
      all_goals
        go_wp2_with fail
        go_ret2
        exact ⟨rfl, Km.bl (by first | assumption | exact Km.drew ‹_›)⟩
  · have hno : okB p = false := by
      cases h' : okB p
      · rfl
      · exfalso
        rw [okB_iff] at h'
        exact he (by rw [hn]; exact bound_yes (by unfold I64; omega))
    rw [hno]
    have hd : ¬ p / 18446744073709551616 = n / 18446744073709551616 ∨ ¬ p % 18446744073709551616 = n % 18446744073709551616 := by omega
    show Calls _ _ _ w fun e w' => e = .returned (.tuple #[.int .i64 0, .bool false]) ∧ _
    unfold prV at *
    clear hn hI hp he hno h2
    generalize p / 18446744073709551616 = ph at *
    generalize p % 18446744073709551616 = pl at *
    generalize n / 18446744073709551616 = nh at *
    generalize n % 18446744073709551616 = nl at *
    have hb0 := Km.new1 w (.int .i64 ph) (.int .u64 pl) 221
    have HB0 := Lib.hid hb0
    have H1 := Lib.hid h1
    clear hb0 h1
    by_cases hh : ph = nh
    · have q1 : (pl == nl) = false := by
        rcases hd with h | h
        · exact absurd hh h
        · simp [h]
      have q0 : (ph == nh) = true := by simp [hh]
      clear hd hh
      go_enter Tryd.func200, Tryd.ntmps200
      go_wp2_with fail
      have hk := HB0.out
      have hd1 := hk.drew
      clear hk
      refine E_start (S := (fun w' => Km w [(w.heap.size, .int .i64 ph, .int .u64 pl)] w' ∧ w'.cell? ⟨w.heap.size, 0, none⟩ = some (.int .i64 ph) ∧ w'.cell? ⟨w.heap.size, 1, none⟩ = some (.int .u64 pl))) (by kernel_rfl) ⟨hd1, hd1.k0.c0, hd1.k0.c1⟩ ?_
      clear hd1
      refine call_take (i := 0) (v := (.agg #[.int .i64 ph, .int .u64 pl])) rfl (by kernel_rfl) (by kernel_rfl) (by kernel_rfl) (fun _ _ _ h => h) ⟨by kernel_rfl, .inr (fun w' hSw => by have q0' := hSw.2.1; have q1' := hSw.2.2; clear hSw; go_simp)⟩ ?_
      simp only [Act.put, List.getElem_toArray, List.getElem_cons_succ, List.getElem_cons_zero, List.setIfInBounds_toArray, List.set_cons_zero, List.set_cons_succ]
      refine call_take (i := 1) (v := (.int .i64 n)) rfl (by kernel_rfl) (by kernel_rfl) (by kernel_rfl) (fun _ _ _ h => h) ⟨by kernel_rfl, .inr (fun w' _ => by go_simp)⟩ ?_
      simp only [Act.put, List.getElem_toArray, List.getElem_cons_succ, List.getElem_cons_zero, List.setIfInBounds_toArray, List.set_cons_zero, List.set_cons_succ]
      refine call_take (i := 2) (v := .agg #[.int .i64 nh, .int .u64 nl]) rfl (by kernel_rfl) (by kernel_rfl) (by kernel_rfl) (fun _ _ _ h => h) ⟨by kernel_rfl, .inl ⟨197, #[.int .i64 n, .int .i64 1], fun w' => by go_simp, fun w' hw => (H1.out w').mono fun e u ⟨h1, h2⟩ => ⟨h1, h2, hw.1.later h2, (hw.1.later h2).k0.c0, (hw.1.later h2).k0.c1⟩⟩⟩ ?_
      simp only [Act.put, List.getElem_toArray, List.getElem_cons_succ, List.getElem_cons_zero, List.setIfInBounds_toArray, List.set_cons_zero, List.set_cons_succ]
      refine call_take (i := 3) (v := (.bool true)) rfl (by kernel_rfl) (by kernel_rfl) (by kernel_rfl) (fun _ _ _ h => h) ⟨by kernel_rfl, .inr (fun w' _ => by go_simp)⟩ ?_
      simp only [Act.put, List.getElem_toArray, List.getElem_cons_succ, List.getElem_cons_zero, List.setIfInBounds_toArray, List.set_cons_zero, List.set_cons_succ]
      refine call_take (i := 4) (v := (.bool true)) rfl (by kernel_rfl) (by kernel_rfl) (by kernel_rfl) (fun _ _ _ h => h) ⟨by kernel_rfl, .inr (fun w' _ => by go_simp)⟩ ?_
      simp only [Act.put, List.getElem_toArray, List.getElem_cons_succ, List.getElem_cons_zero, List.setIfInBounds_toArray, List.set_cons_zero, List.set_cons_succ]
      refine skip_take (i := 5) rfl (by kernel_rfl) (by kernel_rfl) (by kernel_rfl) (fun _ _ _ h => h) (by kernel_rfl) ?_
      simp only [Act.put, List.getElem_toArray, List.getElem_cons_succ, List.getElem_cons_zero, List.setIfInBounds_toArray, List.set_cons_zero, List.set_cons_succ]
      refine skip_take (i := 6) rfl (by kernel_rfl) (by kernel_rfl) (by kernel_rfl) (fun _ _ _ h => h) (by kernel_rfl) ?_
      simp only [Act.put, List.getElem_toArray, List.getElem_cons_succ, List.getElem_cons_zero, List.setIfInBounds_toArray, List.set_cons_zero, List.set_cons_succ]
      refine skip_take (i := 7) rfl (by kernel_rfl) (by kernel_rfl) (by kernel_rfl) (fun _ _ _ h => h) (by kernel_rfl) ?_
      simp only [Act.put, List.getElem_toArray, List.getElem_cons_succ, List.getElem_cons_zero, List.setIfInBounds_toArray, List.set_cons_zero, List.set_cons_succ]
      refine call_take (i := 8) (v := (.bool true)) rfl (by kernel_rfl) (by kernel_rfl) (by kernel_rfl) (fun _ _ _ h => h) ⟨by kernel_rfl, .inr (fun w' _ => by go_simp)⟩ ?_
      simp only [Act.put, List.getElem_toArray, List.getElem_cons_succ, List.getElem_cons_zero, List.setIfInBounds_toArray, List.set_cons_zero, List.set_cons_succ]
      refine E_done (by kernel_rfl) (fun u hu => ?_) _
      have hk := Lib.hid hu.2.1
      clear hu
      go_wp2_with fail
      go_ret2
      exact ⟨rfl, hk.out.bl⟩
    · have q0 : (ph == nh) = false := by simp [hh]
      clear hd hh
      go_enter Tryd.func200, Tryd.ntmps200
      go_wp2_with fail
      have hk := HB0.out
      have hd1 := hk.drew
      clear hk
      refine E_start (S := (fun w' => Km w [(w.heap.size, .int .i64 ph, .int .u64 pl)] w' ∧ w'.cell? ⟨w.heap.size, 0, none⟩ = some (.int .i64 ph) ∧ w'.cell? ⟨w.heap.size, 1, none⟩ = some (.int .u64 pl))) (by kernel_rfl) ⟨hd1, hd1.k0.c0, hd1.k0.c1⟩ ?_
      clear hd1
      refine call_take (i := 0) (v := (.agg #[.int .i64 ph, .int .u64 pl])) rfl (by kernel_rfl) (by kernel_rfl) (by kernel_rfl) (fun _ _ _ h => h) ⟨by kernel_rfl, .inr (fun w' hSw => by have q0' := hSw.2.1; have q1' := hSw.2.2; clear hSw; go_simp)⟩ ?_
      simp only [Act.put, List.getElem_toArray, List.getElem_cons_succ, List.getElem_cons_zero, List.setIfInBounds_toArray, List.set_cons_zero, List.set_cons_succ]
      refine call_take (i := 1) (v := (.int .i64 n)) rfl (by kernel_rfl) (by kernel_rfl) (by kernel_rfl) (fun _ _ _ h => h) ⟨by kernel_rfl, .inr (fun w' _ => by go_simp)⟩ ?_
      simp only [Act.put, List.getElem_toArray, List.getElem_cons_succ, List.getElem_cons_zero, List.setIfInBounds_toArray, List.set_cons_zero, List.set_cons_succ]
      refine call_take (i := 2) (v := .agg #[.int .i64 nh, .int .u64 nl]) rfl (by kernel_rfl) (by kernel_rfl) (by kernel_rfl) (fun _ _ _ h => h) ⟨by kernel_rfl, .inl ⟨197, #[.int .i64 n, .int .i64 1], fun w' => by go_simp, fun w' hw => (H1.out w').mono fun e u ⟨h1, h2⟩ => ⟨h1, h2, hw.1.later h2, (hw.1.later h2).k0.c0, (hw.1.later h2).k0.c1⟩⟩⟩ ?_
      simp only [Act.put, List.getElem_toArray, List.getElem_cons_succ, List.getElem_cons_zero, List.setIfInBounds_toArray, List.set_cons_zero, List.set_cons_succ]
      refine call_take (i := 3) (v := (.bool true)) rfl (by kernel_rfl) (by kernel_rfl) (by kernel_rfl) (fun _ _ _ h => h) ⟨by kernel_rfl, .inr (fun w' _ => by go_simp)⟩ ?_
      simp only [Act.put, List.getElem_toArray, List.getElem_cons_succ, List.getElem_cons_zero, List.setIfInBounds_toArray, List.set_cons_zero, List.set_cons_succ]
      refine call_take (i := 4) (v := (.bool true)) rfl (by kernel_rfl) (by kernel_rfl) (by kernel_rfl) (fun _ _ _ h => h) ⟨by kernel_rfl, .inr (fun w' _ => by go_simp)⟩ ?_
      simp only [Act.put, List.getElem_toArray, List.getElem_cons_succ, List.getElem_cons_zero, List.setIfInBounds_toArray, List.set_cons_zero, List.set_cons_succ]
      refine skip_take (i := 5) rfl (by kernel_rfl) (by kernel_rfl) (by kernel_rfl) (fun _ _ _ h => h) (by kernel_rfl) ?_
      simp only [Act.put, List.getElem_toArray, List.getElem_cons_succ, List.getElem_cons_zero, List.setIfInBounds_toArray, List.set_cons_zero, List.set_cons_succ]
      refine skip_take (i := 6) rfl (by kernel_rfl) (by kernel_rfl) (by kernel_rfl) (fun _ _ _ h => h) (by kernel_rfl) ?_
      simp only [Act.put, List.getElem_toArray, List.getElem_cons_succ, List.getElem_cons_zero, List.setIfInBounds_toArray, List.set_cons_zero, List.set_cons_succ]
      refine skip_take (i := 7) rfl (by kernel_rfl) (by kernel_rfl) (by kernel_rfl) (fun _ _ _ h => h) (by kernel_rfl) ?_
      simp only [Act.put, List.getElem_toArray, List.getElem_cons_succ, List.getElem_cons_zero, List.setIfInBounds_toArray, List.set_cons_zero, List.set_cons_succ]
      refine call_take (i := 8) (v := (.bool true)) rfl (by kernel_rfl) (by kernel_rfl) (by kernel_rfl) (fun _ _ _ h => h) ⟨by kernel_rfl, .inr (fun w' _ => by go_simp)⟩ ?_
      simp only [Act.put, List.getElem_toArray, List.getElem_cons_succ, List.getElem_cons_zero, List.setIfInBounds_toArray, List.set_cons_zero, List.set_cons_succ]
      refine E_done (by kernel_rfl) (fun u hu => ?_) _
      have hk := Lib.hid hu.2.1
      clear hu
      go_wp2_with fail
      go_ret2
      exact ⟨rfl, hk.out.bl⟩
end Go.Proofs.YtmbcejldifobnaaDoor.Sp
