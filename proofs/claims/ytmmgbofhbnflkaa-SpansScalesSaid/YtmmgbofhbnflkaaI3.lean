import Derived.Test.YtmmgbofhbnflkaaI1
import Derived.Laws.Externs
namespace Go.Proofs.Ytmmgbofhbnflkaa
open Go.RowKit

def prV (p : Int) : Value := .agg #[.int .i64 (p / 18446744073709551616), .int .u64 (p % 18446744073709551616)]
def Fits (p : Int) : Prop := -170141183460469231731687303715884105727 ≤ p ∧ p ≤ 170141183460469231731687303715884105727

theorem mul64_any (x y : Int) (hx : 0 ≤ x ∧ x < 18446744073709551616) (hy : 0 ≤ y ∧ y < 18446744073709551616) (w : World) :
    Calls Try.prog 89 #[.int .u64 x, .int .u64 y] w fun e w' => e = .returned (.tuple #[.int .u64 (x * y / 18446744073709551616), .int .u64 (x * y % 18446744073709551616)]) ∧ w = w' := by
  obtain ⟨x, rfl⟩ := Int.eq_ofNat_of_zero_le hx.1
  obtain ⟨y, rfl⟩ := Int.eq_ofNat_of_zero_le hy.1
  refine (Try.bits_Mul64 x y (by omega) (by omega) w).mono fun e w' ⟨h1, h2⟩ => ⟨?_, h2.symm⟩
  rw [h1]
  rfl

theorem mul_bound {x y : Int} (hx : I64 x) (hy : I64 y) : -85070591730234615865843651857942052864 ≤ x * y ∧ x * y ≤ 85070591730234615865843651857942052864 := by
  have h : (x * y).natAbs ≤ 9223372036854775808 * 9223372036854775808 := by
    rw [Int.natAbs_mul]
    unfold I64 at hx hy
    exact Nat.mul_le_mul (by omega) (by omega)
  omega
theorem wrap64_mod {n p : Int} (hp : I64 p) (h : n % 18446744073709551616 = p % 18446744073709551616) : wrap64 n = p := by
  unfold I64 at hp; unfold wrap64; omega
theorem times_val {x y h l H : Int} (hx : I64 x) (hy : I64 y) (hh : h = IntKind.u64.wrap x * IntKind.u64.wrap y / 18446744073709551616) (hl : l = IntKind.u64.wrap x * IntKind.u64.wrap y % 18446744073709551616)
    (hH : H % 18446744073709551616 = (h - (if x < 0 then IntKind.u64.wrap y else 0) - (if y < 0 then IntKind.u64.wrap x else 0)) % 18446744073709551616) : (.agg #[.int .i64 (wrap64 H), .int .u64 l] : Value) = prV (x * y) := by
  obtain ⟨h1, h2⟩ := times_words x y (IntKind.u64.wrap x) (IntKind.u64.wrap y) (by rw [IntKind.wrap_u64]) (by rw [IntKind.wrap_u64]) hx hy
  have hb := mul_bound hx hy
  have e1 : wrap64 H = x * y / 18446744073709551616 := wrap64_mod (by unfold I64; omega) (by rw [hH, hh, h2])
  unfold prV
  rw [e1, hl, h1]

set_option maxRecDepth 100000 in
theorem times_any (x y : Int) (w : World) (hx : I64 x) (hy : I64 y) :
    Calls Try.prog 68 #[.int .i64 x, .int .i64 y] w fun e w' => e = .returned (prV (x * y)) ∧ Below w.heap.size w w' := by
  have hm := fun W => mul64_any (IntKind.u64.wrap x) (IntKind.u64.wrap y) (by rw [IntKind.wrap_u64]; omega) (by rw [IntKind.wrap_u64]; omega) W
  obtain ⟨h, hh⟩ : ∃ h, h = IntKind.u64.wrap x * IntKind.u64.wrap y / 18446744073709551616 := ⟨_, rfl⟩
  obtain ⟨l, hl⟩ : ∃ l, l = IntKind.u64.wrap x * IntKind.u64.wrap y % 18446744073709551616 := ⟨_, rfl⟩
  rw [← hh, ← hl] at hm
  have HM := Lib.hid hm
  have HH := Lib.hid hh
  have HL := Lib.hid hl
  have HX := Lib.hid hx
  have HY := Lib.hid hy
  clear hh hl hm hx hy
  by_cases h1 : x < 0 <;> by_cases h2 : y < 0
  · go_enter Try.func68, Try.ntmps68
    go_wp2_with fail
    refine (HM.out _).mono ?_
    rintro e w1 ⟨he, rfl⟩
    subst he
    go_wp2_with fail
    refine bodyPost_ret (v := .agg #[.int .i64 (wrap64 (IntKind.u64.wrap (IntKind.u64.wrap (h - IntKind.u64.wrap y) - IntKind.u64.wrap x))), .int .u64 l]) (by simp [results, Try.results68, go_sem]) rfl ⟨ret_val (times_val HX.out HY.out HH.out HL.out ?_), below_alloc w _⟩
    rw [if_pos h1, if_pos h2]; simp only [IntKind.wrap_u64]; omega
  · go_enter Try.func68, Try.ntmps68
    go_wp2_with fail
    refine (HM.out _).mono ?_
    rintro e w1 ⟨he, rfl⟩
    subst he
    go_wp2_with fail
    refine bodyPost_ret (v := .agg #[.int .i64 (wrap64 (IntKind.u64.wrap (h - IntKind.u64.wrap y))), .int .u64 l]) (by simp [results, Try.results68, go_sem]) rfl ⟨ret_val (times_val HX.out HY.out HH.out HL.out ?_), below_alloc w _⟩
    rw [if_pos h1, if_neg (by omega)]; simp only [IntKind.wrap_u64]; omega
  · go_enter Try.func68, Try.ntmps68
    go_wp2_with fail
    refine (HM.out _).mono ?_
    rintro e w1 ⟨he, rfl⟩
    subst he
    go_wp2_with fail
    refine bodyPost_ret (v := .agg #[.int .i64 (wrap64 (IntKind.u64.wrap (h - IntKind.u64.wrap x))), .int .u64 l]) (by simp [results, Try.results68, go_sem]) rfl ⟨ret_val (times_val HX.out HY.out HH.out HL.out ?_), below_alloc w _⟩
    rw [if_neg (by omega), if_pos h2]; simp only [IntKind.wrap_u64]; omega
  · go_enter Try.func68, Try.ntmps68
    go_wp2_with fail
    refine (HM.out _).mono ?_
    rintro e w1 ⟨he, rfl⟩
    subst he
    go_wp2_with fail
    refine bodyPost_ret (v := .agg #[.int .i64 (wrap64 h), .int .u64 l]) (by simp [results, Try.results68, go_sem]) rfl ⟨ret_val (times_val HX.out HY.out HH.out HL.out ?_), below_alloc w _⟩
    rw [if_neg (by omega), if_neg (by omega)]; omega

theorem pbelow_any (p q : Int) (w : World) :
    Calls Try.prog 69 #[prV p, prV q] w fun e w' => e = .returned (.bool (decide (p < q))) ∧ Below w.heap.size w w' := by
  have h1 : p / 18446744073709551616 * 18446744073709551616 + p % 18446744073709551616 = p := by omega
  have h2 : q / 18446744073709551616 * 18446744073709551616 + q % 18446744073709551616 = q := by omega
  have h3 := Int.emod_nonneg p (show (18446744073709551616 : Int) ≠ 0 by omega)
  have h4 := Int.emod_lt_of_pos p (show (0 : Int) < 18446744073709551616 by omega)
  have h5 := Int.emod_nonneg q (show (18446744073709551616 : Int) ≠ 0 by omega)
  have h6 := Int.emod_lt_of_pos q (show (0 : Int) < 18446744073709551616 by omega)
  unfold prV
  generalize p / 18446744073709551616 = ph at *
  generalize p % 18446744073709551616 = pl at *
  generalize q / 18446744073709551616 = qh at *
  generalize q % 18446744073709551616 = ql at *
  by_cases he : ph = qh
  · have hd : decide (p < q) = decide (pl < ql) := by
      by_cases h : pl < ql
      · rw [decide_eq_true h, decide_eq_true]; omega
      · rw [decide_eq_false h, decide_eq_false]; omega
    have q1 : (ph == qh) = true := by simp [he]
    rw [hd]
    clear hd h1 h2 h3 h4 h5 h6 he
    go_enter Try.func69, Try.ntmps69
    go_wp2_with fail
    go_ret
    exact ⟨rfl, below_alloc2 w _ _⟩
  · have hd : decide (p < q) = decide (ph < qh) := by
      by_cases h : ph < qh
      · rw [decide_eq_true h, decide_eq_true]; omega
      · rw [decide_eq_false h, decide_eq_false]; omega
    have q1 : (ph == qh) = false := by simp [he]
    rw [hd]
    clear hd h1 h2 h3 h4 h5 h6 he
    go_enter Try.func69, Try.ntmps69
    go_wp2_with fail
    go_ret
    exact ⟨rfl, below_alloc2 w _ _⟩

theorem xor_all_i64 {n : Int} (h : I64 n) : bits .xor .i64 (-1) n = -1 - n := by
  show IntKind.i64.wrap ((BitVec.ofInt 64 (-1) ^^^ BitVec.ofInt 64 n).toNat : Int) = _
  have h1 : BitVec.ofInt 64 (-1) = BitVec.allOnes 64 := by decide
  rw [h1, BitVec.allOnes_xor, BitVec.toNat_not, BitVec.toNat_ofInt, IntKind.wrap_i64]
  unfold I64 at h
  omega
theorem xor_all_u64 {n : Int} (h : 0 ≤ n ∧ n < 18446744073709551616) : bits .xor .u64 IntKind.u64.max n = 18446744073709551615 - n := by
  show IntKind.u64.wrap ((BitVec.ofInt 64 IntKind.u64.max ^^^ BitVec.ofInt 64 n).toNat : Int) = _
  have h1 : BitVec.ofInt 64 IntKind.u64.max = BitVec.allOnes 64 := by decide
  rw [h1, BitVec.allOnes_xor, BitVec.toNat_not, BitVec.toNat_ofInt, IntKind.wrap_u64]
  omega
theorem inv_val {p : Int} (hp : Fits p) : (.agg #[.int .i64 (bits .xor .i64 (-1) (p / 18446744073709551616)), .int .u64 (bits .xor .u64 IntKind.u64.max (p % 18446744073709551616))] : Value) = prV (-1 - p) := by
  unfold Fits at hp
  rw [xor_all_i64 (by unfold I64; omega), xor_all_u64 (by omega)]
  unfold prV
  rw [show -1 - p / 18446744073709551616 = (-1 - p) / 18446744073709551616 by omega, show 18446744073709551615 - p % 18446744073709551616 = (-1 - p) % 18446744073709551616 by omega]
theorem inverted_any (p : Int) (w : World) (hp : Fits p) :
    Calls Try.prog 90 #[prV p] w fun e w' => e = .returned (prV (-1 - p)) ∧ Below w.heap.size w w' := by
  rw [← inv_val hp]
  clear hp
  unfold prV
  generalize p / 18446744073709551616 = ph at *
  generalize p % 18446744073709551616 = pl at *
  go_enter Try.func90, Try.ntmps90
  go_wp2_with fail
  all_goals first
    | (refine bodyPost_ret (v := .agg #[.int .i64 (bits .xor .i64 (-1) ph), .int .u64 (bits .xor .u64 IntKind.u64.max pl)]) (by simp [results, Try.results90, go_sem]) rfl ⟨rfl, below_alloc2 w _ _⟩)
    | (exfalso; rename_i h; exact absurd rfl h)
    | (exfalso; rename_i h; cases h)
    | (exfalso; simp_all [IntKind.signed])

/-- The model's entry for math/bits.Sub64. -/
def sub64E : Array Value → Sem Value := fun args => do
  let (x, y, b) ← Extern.MathBitsCarry.three "Sub64" args
  pure (Extern.MathBitsCarry.pair ((x + Extern.MathBitsCarry.m64 - y - b) % Extern.MathBitsCarry.m64) (if x < y + b then 1 else 0))
theorem run_sub64E (x y b : Nat) (hb : b ≤ 1) (w : World) :
    (sub64E #[.int .u64 x, .int .u64 y, .int .u64 b]).run Try.prog w =
      .ok (.tuple #[.int .u64 (((x + 18446744073709551616 - y - b) % 18446744073709551616 : Nat) : Int), .int .u64 ((if x < y + b then 1 else 0 : Nat) : Int)]) w := by
  have : b = 0 ∨ b = 1 := by omega
  rcases this with rfl | rfl <;> rfl
theorem sub64_call (y L B : Int) (hy : 0 ≤ y ∧ y < 18446744073709551616) (hL : L = -y % 18446744073709551616) (hB : B = if y = 0 then 0 else 1) (w : World) :
    (callFunc 102 #[.int .u64 0, .int .u64 y, .int .u64 0]).run Try.prog w = .ok (.value (.tuple #[.int .u64 L, .int .u64 B])) w := by
  obtain ⟨y, rfl⟩ := Int.eq_ofNat_of_zero_le hy.1
  have h := run_sub64E 0 y 0 (by omega) w
  rw [run_callFunc_extern Try.func102 (by kernel_rfl) (by kernel_rfl) (by kernel_rfl) (e := sub64E) (by kernel_rfl)]
  rw [show ((0 : Nat) : Int) = 0 from rfl] at h
  rw [h]
  have e1 : L = (((0 + 18446744073709551616 - y - 0) % 18446744073709551616 : Nat) : Int) := by rw [hL]; omega
  have e2 : B = ((if 0 < y + 0 then 1 else 0 : Nat) : Int) := by
    rw [hB]
    by_cases h0 : y = 0
    · subst h0; rfl
    · rw [if_neg (by omega), if_pos (by omega)]; rfl
  rw [e1, e2]
  rfl
theorem neg_val {p B : Int} (hp : Fits p) (hB : B = if p % 18446744073709551616 = 0 then 0 else 1) :
    (.agg #[.int .i64 (wrap64 (wrap64 (-(p / 18446744073709551616)) - wrap64 B)), .int .u64 (-(p % 18446744073709551616) % 18446744073709551616)] : Value) = prV (-p) := by
  unfold Fits at hp
  unfold prV
  have e : wrap64 (wrap64 (-(p / 18446744073709551616)) - wrap64 B) = -p / 18446744073709551616 := by
    unfold wrap64
    by_cases h : p % 18446744073709551616 = 0
    · rw [if_pos h] at hB; omega
    · rw [if_neg h] at hB; omega
  rw [e, show -(p % 18446744073709551616) % 18446744073709551616 = -p % 18446744073709551616 by omega]

set_option maxRecDepth 100000 in
theorem negative_any (p : Int) (w : World) (hp : Fits p) :
    Calls Try.prog 92 #[prV p] w fun e w' => e = .returned (prV (-p)) ∧ Below w.heap.size w w' := by
  obtain ⟨B, hB⟩ : ∃ B, B = if p % 18446744073709551616 = 0 then (0 : Int) else 1 := ⟨_, rfl⟩
  have hc := sub64_call (p % 18446744073709551616) _ B (by omega) rfl hB
  rw [← neg_val hp hB]
  clear hp hB
  unfold prV
  generalize -(p % 18446744073709551616) % 18446744073709551616 = nl at *
  generalize p % 18446744073709551616 = pl at *
  generalize p / 18446744073709551616 = ph at *
  go_enter Try.func92, Try.ntmps92
  go_wp2_with (simp only [hc])
  refine bodyPost_ret (v := .agg #[.int .i64 (wrap64 (wrap64 (-ph) - wrap64 B)), .int .u64 nl]) (by simp [results, Try.results92, go_sem]) rfl ⟨rfl, below_alloc2 w _ _⟩
end Go.Proofs.Ytmmgbofhbnflkaa
