import Derived.Test.YtokkcmadgcdpiaaDoorG0
import Derived.Lib.Hide
import Derived.Laws.CopyOwn
import Derived.Laws.MakeOwn
import Derived.Laws.BitsAllLaws
import Derived.Deep.RegionWith
namespace Go.Proofs.YtokkcmadgcdpiaaDoor.Wd

def LB : Nat := 4294967296
theorem LB_eq : LB = 4294967296 := rfl
theorem LB_pos : 0 < LB := by decide
theorem LB_two : 2 ≤ LB := by decide
def val : List Nat → Nat
  | [] => 0
  | x :: r => x + LB * val r
def okL (l : List Nat) : Prop := ∀ x ∈ l, x < LB
theorem okL_nil : okL [] := by intro x h; cases h
theorem okL_cons {x : Nat} {l : List Nat} : okL (x :: l) ↔ x < LB ∧ okL l := by simp [okL]
theorem okL_append {a b : List Nat} : okL (a ++ b) ↔ okL a ∧ okL b := by
  simp only [okL, List.mem_append]
  constructor
  · intro h; exact ⟨fun x hx => h x (.inl hx), fun x hx => h x (.inr hx)⟩
  · rintro ⟨h1, h2⟩ x (hx | hx)
    · exact h1 x hx
    · exact h2 x hx
theorem okL_take {l : List Nat} (h : okL l) (k : Nat) : okL (l.take k) := fun x hx => h x (List.mem_of_mem_take hx)
theorem okL_drop {l : List Nat} (h : okL l) (k : Nat) : okL (l.drop k) := fun x hx => h x (List.mem_of_mem_drop hx)
theorem okL_zero (n : Nat) : okL (List.replicate n 0) := fun x hx => by rw [(List.mem_replicate.1 hx).2]; exact LB_pos
theorem val_append (a b : List Nat) : val (a ++ b) = val a + LB ^ a.length * val b := by
  induction a with
  | nil => simp [val]
  | cons x r ih =>
    simp only [List.cons_append, val, ih, List.length_cons, Nat.pow_succ]
    rw [Nat.mul_add, ← Nat.mul_assoc, Nat.mul_comm LB (LB ^ r.length), Nat.add_assoc]
theorem val_zero (n : Nat) : val (List.replicate n 0) = 0 := by
  induction n with
  | zero => rfl
  | succ n ih => rw [List.replicate_succ, val, ih, Nat.mul_zero]
theorem val_snoc (a : List Nat) (x : Nat) : val (a ++ [x]) = val a + LB ^ a.length * x := by
  rw [val_append]; simp [val]
theorem pow_pos' (n : Nat) : 0 < LB ^ n := Nat.pow_pos LB_pos
theorem val_lt : ∀ {l : List Nat}, okL l → val l < LB ^ l.length
  | [], _ => by simp [val]
  | x :: r, h => by
    obtain ⟨hx, hr⟩ := okL_cons.1 h
    have ih := val_lt hr
    have h1 : LB * (val r + 1) ≤ LB * LB ^ r.length := Nat.mul_le_mul_left _ ih
    rw [Nat.mul_add, Nat.mul_one] at h1
    rw [val, List.length_cons, Nat.pow_succ, Nat.mul_comm (LB ^ r.length)]
    omega
theorem val_split (l : List Nat) (k : Nat) (hk : k ≤ l.length) : val l = val (l.take k) + LB ^ k * val (l.drop k) := by
  conv => lhs; rw [← List.take_append_drop k l]
  rw [val_append, List.length_take, Nat.min_eq_left hk]
/-- The limbs of a number. -/
def dg (n : Nat) : List Nat := if n = 0 then [] else (n % LB) :: dg (n / LB)
termination_by n
decreasing_by exact Nat.div_lt_self (by omega) LB_two
theorem dg_zero : dg 0 = [] := by rw [dg]; rfl
theorem dg_pos {n : Nat} (h : n ≠ 0) : dg n = (n % LB) :: dg (n / LB) := by rw [dg, if_neg h]
theorem val_dg (n : Nat) : val (dg n) = n := by
  induction n using Nat.strongRecOn with
  | _ n ih =>
    by_cases h : n = 0
    · subst h; rw [dg_zero]; rfl
    · rw [dg_pos h, val, ih _ (Nat.div_lt_self (by omega) LB_two)]
      exact Nat.mod_add_div n LB
theorem ok_dg (n : Nat) : okL (dg n) := by
  induction n using Nat.strongRecOn with
  | _ n ih =>
    by_cases h : n = 0
    · subst h; rw [dg_zero]; exact okL_nil
    · rw [dg_pos h, okL_cons]
      exact ⟨Nat.mod_lt _ LB_pos, ih _ (Nat.div_lt_self (by omega) LB_two)⟩
theorem dg_nil {n : Nat} : dg n = [] ↔ n = 0 := by
  constructor
  · intro h; rw [← val_dg n, h]; rfl
  · rintro rfl; exact dg_zero
/-- Right: the last limb is not 0. -/
def rightL (l : List Nat) : Prop := okL l ∧ l.getLast? ≠ some 0
theorem right_dg (n : Nat) : rightL (dg n) := by
  refine ⟨ok_dg n, ?_⟩
  induction n using Nat.strongRecOn with
  | _ n ih =>
    by_cases h : n = 0
    · subst h; rw [dg_zero]; simp
    · rw [dg_pos h]
      by_cases h2 : n / LB = 0
      · rw [h2, dg_zero]
        have h3 := Nat.mod_add_div n LB
        rw [h2] at h3
        simp; omega
      · have hne : dg (n / LB) ≠ [] := fun e => h2 (dg_nil.1 e)
        rw [List.getLast?_cons, List.getLast?_eq_some_getLast hne]
        have := ih _ (Nat.div_lt_self (by omega) LB_two)
        rw [List.getLast?_eq_some_getLast hne] at this
        simpa using this
theorem dg_val {l : List Nat} (h : rightL l) : dg (val l) = l := by
  obtain ⟨h1, h2⟩ := h
  induction l with
  | nil => exact dg_zero
  | cons x r ih =>
    obtain ⟨hx, hr⟩ := okL_cons.1 h1
    have hv : val (x :: r) = x + LB * val r := rfl
    by_cases hr0 : r = []
    · subst hr0
      have hx0 : x ≠ 0 := by simpa using h2
      rw [hv, show val [] = 0 from rfl, Nat.mul_zero, Nat.add_zero, dg_pos hx0, Nat.mod_eq_of_lt hx, Nat.div_eq_of_lt hx, dg_zero]
    · have h3 : r.getLast? ≠ some 0 := by
        rw [List.getLast?_cons, List.getLast?_eq_some_getLast hr0] at h2
        rw [List.getLast?_eq_some_getLast hr0]; simpa using h2
      have ih' := ih hr h3
      have hp : val r ≠ 0 := fun e => by rw [e, dg_zero] at ih'; exact hr0 ih'.symm
      have hn : x + LB * val r ≠ 0 := by
        have := Nat.mul_pos LB_pos (Nat.pos_of_ne_zero hp); omega
      rw [hv, dg_pos hn, Nat.add_mul_mod_self_left, Nat.mod_eq_of_lt hx, Nat.add_mul_div_left _ _ LB_pos, Nat.div_eq_of_lt hx, Nat.zero_add, ih']
theorem dg_le {n k : Nat} : (dg n).length ≤ k ↔ n < LB ^ k := by
  induction k generalizing n with
  | zero => simp [dg_nil]
  | succ k ih =>
    by_cases h : n = 0
    · subst h; rw [dg_zero]; simp [pow_pos']
    · rw [dg_pos h, List.length_cons, Nat.succ_le_succ_iff, ih, Nat.pow_succ, Nat.div_lt_iff_lt_mul LB_pos]
theorem lt_dg (n : Nat) : n < LB ^ (dg n).length := dg_le.1 (Nat.le_refl _)
theorem dg_gt {n k : Nat} : k < (dg n).length ↔ LB ^ k ≤ n := by
  have := @dg_le n k; omega
theorem dg_mono {m n : Nat} (h : m ≤ n) : (dg m).length ≤ (dg n).length := dg_le.2 (Nat.lt_of_le_of_lt h (lt_dg n))
theorem dg_len_lt {m n : Nat} (h : (dg m).length < (dg n).length) : m < n := by
  rcases Nat.lt_or_ge m n with h1 | h1
  · exact h1
  · have := dg_mono h1; omega
/-- Trimmed: without zero limbs at the end. -/
theorem trim_step {l : List Nat} {k : Nat} (h0 : l[k]? = some 0) (h : val (l.take (k + 1)) = val l) : val (l.take k) = val l := by
  rw [List.take_add_one, h0] at h
  rw [← h]; simp [val_append, val]
theorem trim_stop {l : List Nat} {k x : Nat} (ho : okL l) (_hk : k < l.length) (h0 : l[k]? = some x) (hx : x ≠ 0) (h : val (l.take (k + 1)) = val l) : l.take (k + 1) = dg (val l) := by
  rw [← h]
  symm
  apply dg_val
  refine ⟨okL_take ho _, ?_⟩
  rw [List.take_add_one, h0]; simpa using hx
theorem trim_end {l : List Nat} (h : val (l.take 0) = val l) : l.take 0 = dg (val l) := by
  rw [← h]; simp [val, dg_zero]
theorem val_take_mod {l : List Nat} (h : okL l) (k : Nat) : val (l.take k) = val l % LB ^ k := by
  rcases Nat.le_total k l.length with hk | hk
  · rw [val_split l k hk, Nat.add_mul_mod_self_left]
    have := val_lt (okL_take h k)
    rw [List.length_take, Nat.min_eq_left hk] at this
    exact (Nat.mod_eq_of_lt this).symm
  · rw [List.take_of_length_le hk]
    exact (Nat.mod_eq_of_lt (Nat.lt_of_lt_of_le (val_lt h) (Nat.pow_le_pow_right LB_pos hk))).symm
theorem val_drop_div {l : List Nat} (h : okL l) (k : Nat) : val (l.drop k) = val l / LB ^ k := by
  rcases Nat.le_total k l.length with hk | hk
  · rw [val_split l k hk, Nat.add_mul_div_left _ _ (pow_pos' k)]
    have := val_lt (okL_take h k)
    rw [List.length_take, Nat.min_eq_left hk] at this
    rw [Nat.div_eq_of_lt this, Nat.zero_add]
  · rw [List.drop_eq_nil_of_le hk]
    exact (Nat.div_eq_of_lt (Nat.lt_of_lt_of_le (val_lt h) (Nat.pow_le_pow_right LB_pos hk))).symm

theorem val_lt_take {a b : List Nat} {k x y : Nat} (ha : okL a) (_hb : okL b) (hxa : a[k]? = some x) (hyb : b[k]? = some y) (hl : a.length = b.length) (hd : a.drop (k + 1) = b.drop (k + 1)) (h : x < y) : val a < val b := by
  obtain ⟨ka, ea⟩ := List.getElem?_eq_some_iff.1 hxa
  obtain ⟨kb, eb⟩ := List.getElem?_eq_some_iff.1 hyb
  rw [val_split a k (by omega), val_split b k (by omega)]
  have h1 : a.drop k = x :: a.drop (k + 1) := by rw [List.drop_eq_getElem_cons ka, ea]
  have h2 : b.drop k = y :: b.drop (k + 1) := by rw [List.drop_eq_getElem_cons kb, eb]
  have h3 := val_lt (okL_take ha k)
  rw [List.length_take, Nat.min_eq_left (by omega)] at h3
  rw [h1, h2, hd, val, val]
  generalize val (b.drop (k + 1)) = t
  have h4 : LB ^ k * (x + LB * t) + LB ^ k ≤ LB ^ k * (y + LB * t) := by
    rw [← Nat.mul_succ]; exact Nat.mul_le_mul_left _ (by omega)
  omega
theorem val_eq_drop {a b : List Nat} (h : a.drop 0 = b.drop 0) : val a = val b := by simp at h; rw [h]
theorem drop_step {a b : List Nat} {k x : Nat} (hxa : a[k]? = some x) (hyb : b[k]? = some x) (hd : a.drop (k + 1) = b.drop (k + 1)) : a.drop k = b.drop k := by
  obtain ⟨ka, ea⟩ := List.getElem?_eq_some_iff.1 hxa
  obtain ⟨kb, eb⟩ := List.getElem?_eq_some_iff.1 hyb
  rw [List.drop_eq_getElem_cons ka, List.drop_eq_getElem_cons kb, ea, eb, hd]
end Go.Proofs.YtokkcmadgcdpiaaDoor.Wd
namespace Go.Proofs.YtokkcmadgcdpiaaDoor.Wd

theorem guess_less {a b a3 b2 K n : Nat} (ea : a < (a3 + 1) * K) (eb : b2 * K ≤ b) (hb : 0 < b) (h : a3 < n * b2) : a / b < n := by
  rw [Nat.div_lt_iff_lt_mul hb]
  have h1 : (a3 + 1) * K ≤ n * b2 * K := Nat.mul_le_mul_right _ h
  have h2 : n * (b2 * K) ≤ n * b := Nat.mul_le_mul_left _ eb
  rw [Nat.mul_assoc] at h1
  omega
structure Lehm (X Y p q r s x y : Nat) (odd : Bool) : Prop where
  hX : X = s * x + q * y
  hY : Y = r * x + p * y
  det : if odd then q * r = p * s + 1 else p * s = q * r + 1
  rs : r ≤ s
  pr : p + r ≤ q + s
  yx : y ≤ x
theorem lehm_start {X Y : Nat} (h : Y ≤ X) : Lehm X Y 1 0 0 1 X Y false := ⟨by omega, by omega, by simp, by omega, by omega, h⟩
theorem lehm_then {X Y p q r s x y : Nat} {odd : Bool} (h : Lehm X Y p q r s x y odd) (hy : 0 < y) :
    Lehm X Y r s (p + x / y * r) (q + x / y * s) y (x % y) (!odd) := by
  obtain ⟨hX, hY, hd, h1, h2, h3⟩ := h
  have hn : 1 ≤ x / y := (Nat.one_le_div_iff hy).2 h3
  have hm := Nat.div_add_mod x y
  have hlt := Nat.mod_lt x hy
  generalize x / y = n at *
  generalize x % y = m at *
  have hr : n * r ≤ n * s := Nat.mul_le_mul_left _ h1
  obtain ⟨k, rfl⟩ : ∃ k, n = k + 1 := ⟨n - 1, by omega⟩
  have hr' : k * r ≤ k * s := Nat.mul_le_mul_left _ h1
  refine ⟨?_, ?_, ?_, ?_, ?_, by omega⟩
  · rw [hX, ← hm]; grind
  · rw [hY, ← hm]; grind
  · cases odd
    · simp only [Bool.false_eq_true, if_false, Bool.not_false, if_true] at hd ⊢
      grind
    · simp only [Bool.false_eq_true, if_false, Bool.not_true, if_true] at hd ⊢
      grind
  · rw [Nat.add_mul, Nat.add_mul]; omega
  · rw [Nat.add_mul, Nat.add_mul]; omega

end Go.Proofs.YtokkcmadgcdpiaaDoor.Wd
namespace Go.Proofs.YtokkcmadgcdpiaaDoor.Wd

def bitsOf (n : Nat) : Nat := if n = 0 then 0 else Nat.log2 n + 1
theorem bits_zero : bitsOf 0 = 0 := rfl
theorem bits_lt (n : Nat) : n < 2 ^ bitsOf n := by
  unfold bitsOf
  split
  · omega
  · exact Nat.lt_log2_self
theorem bits_le {n : Nat} (h : n ≠ 0) : 2 ^ (bitsOf n - 1) ≤ n := by
  unfold bitsOf
  rw [if_neg h, Nat.add_sub_cancel]; exact Nat.log2_self_le h
theorem bits_unique {n k : Nat} (h1 : 2 ^ k ≤ n) (h2 : n < 2 ^ (k + 1)) : bitsOf n = k + 1 := by
  have hn : n ≠ 0 := by have := Nat.two_pow_pos k; omega
  unfold bitsOf
  rw [if_neg hn, Nat.add_right_cancel_iff]
  exact (Nat.log2_eq_iff hn).2 ⟨h1, h2⟩
theorem bits_pos {n : Nat} (h : n ≠ 0) : 0 < bitsOf n := by unfold bitsOf; rw [if_neg h]; omega
theorem bits_le_iff {n k : Nat} : bitsOf n ≤ k ↔ n < 2 ^ k := by
  constructor
  · intro h; exact Nat.lt_of_lt_of_le (bits_lt n) (Nat.pow_le_pow_right (by omega) h)
  · intro h
    by_cases hn : n = 0
    · subst hn; rw [bits_zero]; omega
    · rcases Nat.lt_or_ge k (bitsOf n) with h1 | h1
      · have h2 := bits_le hn
        have h3 : 2 ^ k ≤ 2 ^ (bitsOf n - 1) := Nat.pow_le_pow_right (by omega) (by omega)
        omega
      · exact h1
theorem LBpow (k : Nat) : LB ^ k = 2 ^ (32 * k) := by rw [Nat.pow_mul]; rfl
/-- The bits of the last limb, and those of the limbs before it. -/
theorem bits_top {l : List Nat} {x : Nat} (h : okL l) (hx : x ≠ 0) : bitsOf (val (l ++ [x])) = 32 * l.length + bitsOf x := by
  have h1 := val_lt h
  have h2 := bits_le hx
  have h3 := bits_lt x
  obtain ⟨b, hb⟩ : ∃ b, bitsOf x = b + 1 := ⟨bitsOf x - 1, by have := bits_pos hx; omega⟩
  rw [hb] at h2 h3 ⊢
  rw [Nat.add_sub_cancel] at h2
  rw [show 32 * l.length + (b + 1) = (32 * l.length + b) + 1 by omega]
  rw [val_snoc]
  rw [LBpow] at h1 ⊢
  apply bits_unique
  · rw [Nat.pow_add]
    have := Nat.mul_le_mul_left (2 ^ (32 * l.length)) h2
    omega
  · rw [Nat.add_assoc, Nat.pow_add]
    have := Nat.mul_le_mul_left (2 ^ (32 * l.length)) (show x + 1 ≤ 2 ^ (b + 1) by omega)
    rw [Nat.mul_add] at this
    omega
end Go.Proofs.YtokkcmadgcdpiaaDoor.Wd
namespace Go.Proofs.YtokkcmadgcdpiaaDoor.Wd
open Go.RowKit

def u32 (x : Nat) : Value := .int .u32 (x : Int)
/-- v holds these limbs. -/
def Lim (w : World) (B : Nat) (v : Value) (l : List Nat) : Prop := SlC w B v (l.map u32) ∧ okL l
/-- v holds this number, with no zero limb at the end. -/
def Num (w : World) (B : Nat) (v : Value) (n : Nat) : Prop := Lim w B v (dg n)
theorem Lim.below {w w' : World} {B : Nat} {v : Value} {l : List Nat} (h : Lim w B v l) (hb : Below B w w') : Lim w' B v l := ⟨h.1.below hb, h.2⟩
theorem Lim.more {w : World} {B B' : Nat} {v : Value} {l : List Nat} (h : Lim w B v l) (hB : B ≤ B') : Lim w B' v l := ⟨h.1.more hB, h.2⟩
theorem Lim.up {w w' : World} {v : Value} {l : List Nat} (h : Lim w w.heap.size v l) (hb : Below w.heap.size w w') : Lim w' w'.heap.size v l := ⟨h.1.up hb, h.2⟩
theorem Lim.form {w : World} {B : Nat} {v : Value} {l : List Nat} (h : Lim w B v l) : ∃ A cap, v = .slice A l.length cap ∧ l.length ≤ cap := by
  have := h.1.form; simpa using this
theorem Lim.cell {w : World} {B : Nat} {A : Option Addr} {n cap : Nat} {l : List Nat} (h : Lim w B (.slice A n cap) l) {k x : Nat} (hx : l[k]? = some x) :
    ∃ g o, A = some ⟨g, o, none⟩ ∧ g < B ∧ w.cell? ⟨g, o + k, none⟩ = some (.int .u32 (x : Int)) := h.1.cell (x := u32 x) (by rw [List.getElem?_map, hx]; rfl)
theorem Lim.lt {l : List Nat} (h : okL l) {k x : Nat} (hx : l[k]? = some x) : x < 4294967296 := h x (List.mem_of_getElem? hx)
theorem Lim.take {w : World} {B : Nat} {A : Option Addr} {n cap : Nat} {l : List Nat} (h : Lim w B (.slice A n cap) l) (k : Nat) (hk : k ≤ n) : Lim w B (.slice A k cap) (l.take k) :=
  ⟨by rw [List.map_take]; exact h.1.take k hk, okL_take h.2 k⟩
theorem Lim.nil (w : World) (B c : Nat) (A : Option Addr) : Lim w B (.slice A 0 c) [] := ⟨SlC.nil w B c A, okL_nil⟩
theorem Num.zero (w : World) (B : Nat) : Num w B (.slice none 0 0) 0 := by unfold Num; rw [dg_zero]; exact Lim.nil _ _ _ _

theorem trim_dg_end {l : List Nat} {k : Nat} (ho : okL l) (hv : val (l.take k) = val l) (h : k = 0 ∨ ∃ x, l[k - 1]? = some x ∧ x ≠ 0) : l.take k = dg (val l) := by
  rcases h with rfl | ⟨x, hx, h0⟩
  · exact trim_end hv
  · by_cases hk : k = 0
    · subst hk; exact trim_end hv
    · obtain ⟨j, rfl⟩ : ∃ j, k = j + 1 := ⟨k - 1, by omega⟩
      have hj : j < l.length := (List.getElem?_eq_some_iff.1 (by simpa using hx)).1
      exact trim_stop ho hj (by simpa using hx) h0 hv

set_option maxHeartbeats 1000000 in
theorem trim_any (v : Value) (l : List Nat) (w : World) (hv : Lim w w.heap.size v l) (hlen : l.length ≤ 1000000000) :
    Calls Tryd.prog 75 #[v] w fun e w' => ∃ v', e = .returned v' ∧ Num w w.heap.size v' (val l) ∧ w = w' := by
  obtain ⟨A, cap, rfl, hcap⟩ := hv.form
  have HV := Lib.hid hv
  clear hv
  go_enter Tryd.func75, Tryd.ntmps75
  go_wp2
  go_loop [3] (fun n => ∃ k : Nat, k ≤ l.length ∧ n = .int .i64 k ∧ val (l.take k) = val l) (fun n => (intOf n).toNat)
  case atStart => exact ⟨l.length, Nat.le_refl _, rfl, by rw [List.take_length]⟩
  case round =>
    obtain ⟨k, hk, rfl, hr⟩ := hrel
    have HR := Lib.hid hr
    clear hr
    by_cases hk0 : 0 < k
    · obtain ⟨x, hx⟩ : ∃ x, l[k - 1]? = some x := ⟨l[k - 1]'(by omega), List.getElem?_eq_getElem (by omega)⟩
      obtain ⟨g, o, rfl, hg, c0⟩ := HV.out.cell hx
      obtain ⟨j, rfl⟩ : ∃ j, k = j + 1 := ⟨k - 1, by omega⟩
      simp only [Nat.add_sub_cancel] at hx c0
      have HX := Lib.hid hx
      clear hx
      by_cases hx0 : x = 0
      · subst hx0
        go_wp2
        go_round
        case rel => exact ⟨j, by omega, by go_num, trim_step HX.out HR.out⟩
        case measure => simp [intOf]
      · have q1 : ((x : Int) == 0) = false := by simp [hx0]
        go_wp2
        go_ret
        refine ⟨_, rfl, ?_, rfl⟩
        have := HV.out.take (j + 1) hk
        rw [trim_dg_end HV.out.2 HR.out (.inr ⟨x, by simpa using HX.out, hx0⟩)] at this
        exact this
    · obtain rfl : k = 0 := by omega
      go_wp2
      go_ret
      refine ⟨_, rfl, ?_, rfl⟩
      have := HV.out.take 0 hk
      rw [trim_dg_end HV.out.2 HR.out (.inl rfl)] at this
      exact this
end Go.Proofs.YtokkcmadgcdpiaaDoor.Wd
namespace Go.Proofs.YtokkcmadgcdpiaaDoor.Wd
open Go.RowKit

theorem Tryd.infoU : (Tryd.prog.info? 97).map (fun i => (i.zero, i.size, i.bytes)) = some (some (.int .u32 0), 1, 4) := by kernel_rfl
def zeros (n : Nat) : List Value := (List.replicate n 0).map u32
theorem mkU (n : Nat) (hn : n ≤ 10000000000) (w : World) :
    (Instr.makeSlice 53 (.int .i64 (n : Int)) (.int .i64 (n : Int))).run Tryd.prog w = .ok (.slice (some ⟨w.heap.size, 0, none⟩) n n) (w.alloc (.cells (zeros n).toArray 97)) := by
  obtain ⟨i0, hi, hz0, hz1, hz2⟩ := info_parts Tryd.infoU
  have h := run_make (P := Tryd.prog) w 53 97 i0 _ Tryd.underlying53 hi hz0 .i64 .i64 n n (by omega) (by omega) (by rw [hz2]; omega) (by omega)
  simp only [Int.toNat_natCast] at h
  rw [hz1, Nat.mul_one] at h
  have e : madeCells (Value.int .u32 0).cells n = (zeros n).toArray := by
    apply Array.toList_inj.1
    rw [show (Value.int .u32 0).cells = #[Value.int .u32 0] from rfl, toList_madeCells_one]
    simp [zeros, u32]
  rw [e] at h
  exact h

theorem mkI (x : Int) (n : Nat) (hx : x = (n : Int)) (hn : n ≤ 10000000000) (w : World) :
    (Instr.makeSlice 53 (.int .i64 x) (.int .i64 x)).run Tryd.prog w = .ok (.slice (some ⟨w.heap.size, 0, none⟩) n n) (w.alloc (.cells (zeros n).toArray 97)) := by
  subst hx; exact mkU n hn w

/-- Block g holds just these limbs. -/
def Row (w : World) (g : Nat) (L : List Nat) : Prop := w.heap[g]? = some (.cells (L.map u32).toArray 97 (0, 0))
theorem Row.cell {w : World} {g : Nat} {L : List Nat} (h : Row w g L) {i x : Nat} (hx : L[i]? = some x) : w.cell? ⟨g, i, none⟩ = some (.int .u32 (x : Int)) := by
  rw [Go.Joins.cell_of_block h i]; simp [hx, u32]
theorem Row.frozen {w : World} {g : Nat} {L : List Nat} (h : Row w g L) (i : Nat) : w.frozen? ⟨g, i, none⟩ = false := by
  have e : w.heap[g]? = some (.cells (L.map u32).toArray 97 (0, 0)) := h
  simp [World.frozen?, e]
theorem Row.lt {w : World} {g : Nat} {L : List Nat} (h : Row w g L) : g < w.heap.size := (Array.getElem?_eq_some_iff.1 h).1
theorem Row.new (w : World) (n : Nat) : Row (w.alloc (.cells (zeros n).toArray 97)) w.heap.size (List.replicate n 0) := heap_alloc_new w _
theorem Row.set {w : World} {g : Nat} {L : List Nat} (h : Row w g L) (i x : Nat) : Row (w.setCell ⟨g, i, none⟩ (.int .u32 (x : Int))) g (L.set i x) := by
  have e : w.heap[g]? = some (.cells (L.map u32).toArray 97 (0, 0)) := h
  show (w.setCell _ _).heap[g]? = _
  rw [List.map_set]
  simp [World.setCell, Array.getElem?_modify, e, u32]
theorem Row.below {w w' : World} {B g : Nat} {L : List Nat} (h : Row w g L) (hb : Below B w w') (hg : g < B) : Row w' g L := (hb.block g hg).trans h
theorem Row.up {w w' : World} {g : Nat} {L : List Nat} (h : Row w g L) (hb : Below w.heap.size w w') : Row w' g L := h.below hb h.lt
theorem Row.drewN {w : World} {g : Nat} {L : List Nat} (h : Row w g L) (n : Nat) : Row (w.drewN n) g L := h
theorem Row.alloc {w : World} {g : Nat} {L : List Nat} (h : Row w g L) (o : Obj) : Row (w.alloc o) g L := h.up ((Below.refl _ _).alloc (Nat.le_refl _) o)
/-- A part of the row as limbs. -/
theorem Row.part {w : World} {g : Nat} {L : List Nat} (h : Row w g L) (ho : okL L) (o n cap : Nat) (hn : o + n ≤ L.length) (hc : n ≤ cap) : Lim w w.heap.size (.slice (some ⟨g, o, none⟩) n cap) ((L.drop o).take n) := by
  have hl : ((L.drop o).take n).length = n := by rw [List.length_take, List.length_drop]; omega
  refine ⟨⟨_, cap, by rw [List.length_map, hl], by rw [List.length_map, hl]; exact hc, fun _ => ⟨g, o, rfl, h.lt, ?_⟩⟩, okL_take (okL_drop ho o) n⟩
  intro k x hx
  rw [List.getElem?_map] at hx
  obtain ⟨y, hy, rfl⟩ := Option.map_eq_some_iff.1 hx
  rw [List.getElem?_take] at hy
  split at hy
  · rw [List.getElem?_drop] at hy
    exact h.cell hy
  · cases hy
theorem Row.whole {w : World} {g : Nat} {L : List Nat} (h : Row w g L) (ho : okL L) (cap : Nat) (hc : L.length ≤ cap) : Lim w w.heap.size (.slice (some ⟨g, 0, none⟩) L.length cap) L := by
  have := h.part ho 0 L.length cap (by omega) hc
  simpa using this
end Go.Proofs.YtokkcmadgcdpiaaDoor.Wd
namespace Go.Proofs.YtokkcmadgcdpiaaDoor.Wd
open Go.RowKit

/-- The row with some limbs from a place on written anew. -/
def upd (L : List Nat) (o : Nat) (r : List Nat) : List Nat := L.take o ++ r ++ L.drop (o + r.length)
theorem upd_nil (L : List Nat) (o : Nat) : upd L o [] = L := by simp [upd]
theorem upd_len (L : List Nat) (o : Nat) (r : List Nat) (h : o + r.length ≤ L.length) : (upd L o r).length = L.length := by simp [upd]; omega
theorem upd_ok {L r : List Nat} (o : Nat) (hL : okL L) (hr : okL r) : okL (upd L o r) := by
  unfold upd
  rw [okL_append, okL_append]
  exact ⟨⟨okL_take hL o, hr⟩, okL_drop hL _⟩
theorem upd_at (L : List Nat) (o : Nat) (r : List Nat) (j : Nat) (h : o + r.length ≤ L.length) (hj : r.length ≤ j) : (upd L o r)[o + j]? = L[o + j]? := by
  unfold upd
  rw [List.getElem?_append_right (by simp; omega), List.getElem?_drop]
  congr 1
  simp; omega
theorem upd_set (L : List Nat) (o : Nat) (r : List Nat) (x : Nat) (h : o + r.length < L.length) : (upd L o r).set (o + r.length) x = upd L o (r ++ [x]) := by
  unfold upd
  have hl : (L.take o ++ r).length = o + r.length := by simp; omega
  rw [List.set_append, if_neg (by omega), hl, Nat.sub_self, List.drop_eq_getElem_cons h, List.set_cons_zero]
  simp [Nat.add_assoc]
theorem part_at (L : List Nat) (o n k : Nat) (hk : k < n) : ((L.drop o).take n)[k]? = L[o + k]? := by
  rw [List.getElem?_take, if_pos hk, List.getElem?_drop]
theorem Lim.grown {w w' : World} {B g : Nat} {v : Value} {l : List Nat} (h : Lim w B v l) (hg : w.grownBy w' (some g)) (hB : B ≤ g) (hBw : B ≤ w.heap.size) : Lim w' B v l := ⟨h.1.grown hg hB hBw, h.2⟩

theorem take_val {l : List Nat} {k x : Nat} (h : l[k]? = some x) : val (l.take (k + 1)) = val (l.take k) + LB ^ k * x := by
  have hk : k < l.length := (List.getElem?_eq_some_iff.1 h).1
  rw [take_snoc' l k x h, val_snoc, List.length_take, Nat.min_eq_left (by omega)]
/-- One limb more of a sum. -/
theorem add_step {A b r : List Nat} {k m cy y x : Nat} (hy : A[k]? = some y) (hx : b[k]? = some x) (hr : r.length = k) (h : val r + cy * LB ^ k = val (A.take k) + m * val (b.take k)) :
    val (r ++ [(x * m + y + cy) % LB]) + (x * m + y + cy) / LB * LB ^ (k + 1) = val (A.take (k + 1)) + m * val (b.take (k + 1)) := by
  rw [val_snoc, hr, take_val hy, take_val hx, Nat.pow_succ]
  have e := Nat.mod_add_div (x * m + y + cy) LB
  generalize (x * m + y + cy) % LB = p at *
  generalize (x * m + y + cy) / LB = q at *
  generalize LB ^ k = z at *
  grind
theorem add_bound {x m y cy : Nat} (hx : x < LB) (hm : m < LB) (hy : y < LB) (hc : cy < LB) : x * m ≤ 18446744065119617025 ∧ (x * m + y + cy) / LB < LB := by
  have h1 : x * m ≤ 4294967295 * 4294967295 := Nat.mul_le_mul (by rw [LB_eq] at hx; omega) (by rw [LB_eq] at hm; omega)
  rw [LB_eq] at *
  omega

theorem wrap_u {n : Nat} (h : n < 18446744073709551616) : IntKind.u64.wrap (n : Int) = (n : Int) := by
  rw [IntKind.wrap_u64]; omega
theorem cast_add (x m y cy : Nat) : (x : Int) * (m : Int) + (y : Int) + (cy : Int) = ((x * m + y + cy : Nat) : Int) := by
  rw [Int.natCast_add, Int.natCast_add, Int.natCast_mul]
theorem div_lb (n : Nat) : (n : Int) / 4294967296 = ((n / LB : Nat) : Int) := by rw [LB_eq]; omega
theorem mod_lb (n : Nat) : (n : Int) % 4294967296 = ((n % LB : Nat) : Int) := by rw [LB_eq]; omega

def AtRel (w : World) (g o : Nat) (L A b : List Nat) (m : Nat) (c i : Value) (wr : World) : Prop :=
  ∃ (k : Nat) (r : List Nat) (cy : Nat), k ≤ b.length ∧ i = .int .i64 k ∧ c = .int .u64 cy ∧ r.length = k ∧ okL r ∧ cy < LB ∧ val r + cy * LB ^ k = val (A.take k) + m * val (b.take k) ∧
    Row wr g (upd L o r) ∧ w.grownBy wr (some g) ∧ wr.heap.size = w.heap.size

theorem add_step2 {A r : List Nat} {k M cy y : Nat} (hy : A[k]? = some y) (hr : r.length = k) (h : val r + cy * LB ^ k = val (A.take k) + M) :
    val (r ++ [(y + cy) % LB]) + (y + cy) / LB * LB ^ (k + 1) = val (A.take (k + 1)) + M := by
  rw [val_snoc, hr, take_val hy, Nat.pow_succ]
  have e := Nat.mod_add_div (y + cy) LB
  generalize (y + cy) % LB = p at *
  generalize (y + cy) / LB = q at *
  generalize LB ^ k = z at *
  grind
theorem part_drop (L : List Nat) (o n k : Nat) : ((L.drop o).take n).drop k = (L.drop (o + k)).take (n - k) := by
  rw [List.drop_take, List.drop_drop]
theorem upd_tail (L : List Nat) (o n : Nat) (r : List Nat) (h : o + n ≤ L.length) (hr : r.length ≤ n) : upd L o (r ++ ((L.drop o).take n).drop r.length) = upd L o r := by
  unfold upd
  have hl : (r ++ ((L.drop o).take n).drop r.length).length = n := by simp; omega
  rw [hl, part_drop, ← List.append_assoc, List.append_assoc _ _ (L.drop (o + n))]
  congr 1
  conv => rhs; rw [← List.take_append_drop (n - r.length) (L.drop (o + r.length))]
  rw [List.drop_drop]
  congr 2; omega
/-- Where the second loop ends. -/
theorem add_end {L r : List Nat} {o n M cy : Nat} (hon : o + n ≤ L.length) (hr : r.length ≤ n) (hc : r.length = n ∨ cy = 0) (h : val r + cy * LB ^ r.length = val (((L.drop o).take n).take r.length) + M) :
    val (r ++ ((L.drop o).take n).drop r.length) + cy * LB ^ n = val ((L.drop o).take n) + M := by
  have hl : ((L.drop o).take n).length = n := by simp; omega
  rw [val_append, val_split ((L.drop o).take n) r.length (by omega)]
  rcases hc with hc | hc
  · rw [hc] at h ⊢
    rw [List.drop_eq_nil_of_le (by omega)]; simp [val] at h ⊢; omega
  · subst hc; omega
theorem carry_lt {y cy : Nat} (hy : y < LB) (hc : cy < LB) : (y + cy) / LB < LB := by rw [LB_eq] at *; omega
theorem cast_add2 (y cy : Nat) : (y : Int) + (cy : Int) = ((y + cy : Nat) : Int) := by omega

def At2Rel (w : World) (g o n : Nat) (L A : List Nat) (M : Nat) (c i : Value) (wr : World) : Prop :=
  ∃ (k : Nat) (r : List Nat) (cy : Nat), k ≤ n ∧ i = .int .i64 k ∧ c = .int .u64 cy ∧ r.length = k ∧ okL r ∧ cy < LB ∧ val r + cy * LB ^ k = val (A.take k) + M ∧
    Row wr g (upd L o r) ∧ w.grownBy wr (some g) ∧ wr.heap.size = w.heap.size

set_option maxRecDepth 100000 in
set_option maxHeartbeats 2000000 in
theorem addTimes_any (B g o n cap : Nat) (L b : List Nat) (vb : Value) (m : Nat) (w : World) (hr : Row w g L) (hL : okL L) (hb : Lim w B vb b) (hB : B ≤ g) (hBw : B ≤ w.heap.size) (hm : m < LB) (hlen : b.length ≤ n) (hon : o + n ≤ L.length) (hLen : L.length ≤ 1000000000) (hcap : n ≤ cap) :
    Calls Tryd.prog 105 #[.slice (some ⟨g, o, none⟩) n cap, vb, .int .u32 (m : Int)] w fun e w' => (∃ v, e = .returned v) ∧
      ∃ r : List Nat, r.length = n ∧ okL r ∧ (∃ cy, val r + cy * LB ^ n = val ((L.drop o).take n) + m * val b) ∧ Row w' g (upd L o r) ∧ w.grownBy w' (some g) ∧ w'.heap.size = w.heap.size := by
  obtain ⟨A, capb, rfl, hcapb⟩ := hb.form
  have HB := Lib.hid hb
  have HL := Lib.hid hL
  have HM := Lib.hid hm
  have hm1 : (m : Int) < 4294967296 := by rw [LB_eq] at hm; omega
  have hm0 : (0 : Int) ≤ (m : Int) := Int.natCast_nonneg _
  have HR := Lib.hid hr
  clear hb hL hr hm
  go_enter Tryd.func105, Tryd.ntmps105
  go_wp2
  go_loopw [6, 13] (fun c i wr => AtRel w g o L ((L.drop o).take n) b m c i wr) (fun _ i _ => b.length - (intOf i).toNat)
  case atStart => exact ⟨0, [], 0, Nat.zero_le _, rfl, rfl, rfl, okL_nil, LB_pos, by simp [val], by rw [upd_nil]; exact HR.out, grownBy_refl _ _, rfl⟩
  case round =>
    obtain ⟨k, r, cy, hk, rfl, rfl, hrl, hro, hcy, hv, hrow, hgr, hz⟩ := hrel
    by_cases hlt : k < b.length
    · obtain ⟨x, hx⟩ : ∃ x, b[k]? = some x := ⟨b[k], List.getElem?_eq_getElem hlt⟩
      obtain ⟨y, hy⟩ : ∃ y, L[o + k]? = some y := ⟨L[o + k]'(by omega), List.getElem?_eq_getElem (by omega)⟩
      obtain ⟨g', o', rfl, hg', c0⟩ := (HB.out.grown hgr hB hBw).cell hx
      have d0 := hrow.cell (i := o + k) (x := y) (by rw [upd_at L o r k (by omega) (by omega), hy])
      have f0 := hrow.frozen (o + k)
      have hx1 := Lim.lt HB.out.2 hx
      have hy1 := Lim.lt HL.out hy
      have hbd := add_bound (x := x) (y := y) hx1 HM.out hy1 hcy
      go_wp2
      go_quiet (fail)
      go_wp2
      rw [cast_add, wrap_u (by rw [LB_eq] at hcy; omega), div_lb, mod_lb]
      refine ⟨⟨k + 1, r ++ [(x * m + y + cy) % LB], (x * m + y + cy) / LB, by omega, by go_num, rfl, by simp [hrl], ?_, hbd.2, ?_, ?_, ?_, ?_⟩, by simp [intOf]; omega⟩
      · rw [okL_append]; exact ⟨hro, by intro z hz; rw [List.mem_singleton.1 hz]; exact Nat.mod_lt _ LB_pos⟩
      · exact add_step (by rw [part_at L o n k (by omega)]; exact hy) hx hrl hv
      · have h := (hrow.drewN nq).set (o + k) ((x * m + y + cy) % LB)
        rw [← hrl, upd_set L o r _ (by omega)] at h
        rw [← hrl]; exact h
      · exact grownBy_set (grownBy_trans hgr (grownBy_drewN _ _ _)) _ _
      · simp [World.setCell]; exact hz
    · obtain rfl : k = b.length := by omega
      rw [List.take_length] at hv
      go_wp2
      go_loopw [6, 9] (fun c i wr => At2Rel w g o n L ((L.drop o).take n) (m * val b) c i wr) (fun _ i _ => n - (intOf i).toNat)
      case atStart => exact ⟨b.length, r, cy, hlen, rfl, rfl, hrl, hro, hcy, hv, hrow, hgr, hz⟩
      case round =>
        obtain ⟨k, r, cy, hk, rfl, rfl, hrl, hro, hcy, hv, hrow, hgr, hz⟩ := hrel
        have hfin : (k = n ∨ cy = 0) → ∃ r : List Nat, r.length = n ∧ okL r ∧ (∃ cy, val r + cy * LB ^ n = val ((L.drop o).take n) + m * val b) ∧ Row wr g (upd L o r) ∧ w.grownBy wr (some g) ∧ wr.heap.size = w.heap.size := by
          intro hc
          subst hrl
          exact ⟨r ++ ((L.drop o).take n).drop r.length, by simp; omega, by rw [okL_append]; exact ⟨hro, okL_drop (okL_take (okL_drop HL.out o) n) _⟩, ⟨cy, add_end hon hk hc hv⟩, by rw [upd_tail L o n r hon hk]; exact hrow, hgr, hz⟩
        have HF := Lib.hid hfin
        clear hfin
        by_cases hlt : k < n
        · by_cases hcy0 : 0 < cy
          · obtain ⟨y, hy⟩ : ∃ y, L[o + k]? = some y := ⟨L[o + k]'(by omega), List.getElem?_eq_getElem (by omega)⟩
            have d0 := hrow.cell (i := o + k) (x := y) (by rw [upd_at L o r k (by omega) (by omega), hy])
            have f0 := hrow.frozen (o + k)
            have hy1 := Lim.lt HL.out hy
            have hcy1 : cy < 4294967296 := hcy
            have HY := Lib.hid hy
            clear hy
            go_wp2
            rw [cast_add2, div_lb, mod_lb]
            refine ⟨⟨k + 1, r ++ [(y + cy) % LB], (y + cy) / LB, by omega, by go_num, rfl, by simp [hrl], ?_, carry_lt hy1 hcy, ?_, ?_, ?_, ?_⟩, by simp [intOf]; omega⟩
            · rw [okL_append]; exact ⟨hro, by intro z hz; rw [List.mem_singleton.1 hz]; exact Nat.mod_lt _ LB_pos⟩
            · exact add_step2 (by rw [part_at L o n k (by omega)]; exact HY.out) hrl hv
            · have h := hrow.set (o + k) ((y + cy) % LB)
              rw [← hrl, upd_set L o r _ (by omega)] at h
              rw [← hrl]; exact h
            · exact grownBy_set hgr _ _
            · simp [World.setCell]; exact hz
          · obtain rfl : cy = 0 := by omega
            go_wp2
            go_end0
            exact ⟨⟨_, rfl⟩, HF.out (by simp)⟩
        · obtain rfl : k = n := by omega
          go_wp2
          go_end0
          exact ⟨⟨_, rfl⟩, HF.out (by simp)⟩
end Go.Proofs.YtokkcmadgcdpiaaDoor.Wd
namespace Go.Proofs.YtokkcmadgcdpiaaDoor.Wd
open Go.RowKit

/-- What a function leaves that returns a number. -/
def NumPost (w : World) (n : Nat) (e : Ending) (w' : World) : Prop := ∃ v, e = .returned v ∧ Num w' w'.heap.size v n ∧ Below w.heap.size w w'
theorem below_grown {w w1 w2 : World} {g : Nat} (hb : Below w.heap.size w w1) (hg : w1.grownBy w2 (some g)) (hB : w.heap.size ≤ g) : Below w.heap.size w w2 := below_of_grown hb hg hB hb.size
theorem le_pow_of {l : List Nat} {n : Nat} (h : okL l) (hn : l.length ≤ n) : val l < LB ^ n := Nat.lt_of_lt_of_le (val_lt h) (Nat.pow_le_pow_right LB_pos hn)
/-- Nothing is carried out of a row that is long enough. -/
theorem no_carry {r : List Nat} {n V cy : Nat} (h : val r + cy * LB ^ n = V) (hV : V < LB ^ n) : val r = V := by
  rcases Nat.eq_zero_or_pos cy with h0 | h0
  · subst h0; omega
  · have : 1 * LB ^ n ≤ cy * LB ^ n := Nat.mul_le_mul_right _ h0
    omega

end Go.Proofs.YtokkcmadgcdpiaaDoor.Wd
namespace Go.Proofs.YtokkcmadgcdpiaaDoor.Wd
open Go.RowKit

theorem mul_lt_pow {a b : List Nat} {k N : Nat} (ha : okL a) (hb : okL b) (hk : k + b.length ≤ N) : val (a.take k) * val b < LB ^ N := by
  have h1 : val (a.take k) < LB ^ k := le_pow_of (okL_take ha k) (by rw [List.length_take]; omega)
  have h2 := val_lt hb
  have h3 : val (a.take k) * val b < LB ^ k * LB ^ b.length := by
    rcases Nat.eq_zero_or_pos (val b) with h | h
    · rw [h, Nat.mul_zero]; exact Nat.mul_pos (pow_pos' _) (pow_pos' _)
    · exact Nat.lt_of_lt_of_le (Nat.mul_lt_mul_of_pos_right h1 h) (Nat.mul_le_mul_left _ (Nat.le_of_lt h2))
  rw [← Nat.pow_add] at h3
  exact Nat.lt_of_lt_of_le h3 (Nat.pow_le_pow_right LB_pos hk)
/-- One row of a product is added. -/
theorem mul_step {a b R r : List Nat} {k N x cy : Nat} (ha : okL a) (hb : okL b) (hR : R.length = N) (hx : a[k]? = some x) (hk : k + 1 + b.length ≤ N) (hv : val R = val (a.take k) * val b)
    (h : val r + cy * LB ^ (N - k) = val ((R.drop k).take (N - k)) + x * val b) (hr : r.length = N - k) : val (upd R k r) = val (a.take (k + 1)) * val b := by
  have e1 : upd R k r = R.take k ++ r := by unfold upd; rw [List.drop_eq_nil_of_le (by omega)]; simp
  have e2 : (R.drop k).take (N - k) = R.drop k := List.take_of_length_le (by simp; omega)
  have e3 : (R.take k).length = k := by simp; omega
  rw [e2] at h
  have hs := val_split R k (by omega)
  have hlt := mul_lt_pow ha hb hk
  rw [take_val hx] at hlt ⊢
  rw [e1]
  refine no_carry (r := R.take k ++ r) (n := N) (cy := cy) ?_ hlt
  rw [val_append, e3]
  have e4 : LB ^ N = LB ^ k * LB ^ (N - k) := by rw [← Nat.pow_add]; congr 1; omega
  rw [e4, Nat.add_mul, ← hv, hs]
  generalize LB ^ k = z at *
  generalize LB ^ (N - k) = y at *
  grind

def MuRel (w : World) (g N : Nat) (a b : List Nat) (i : Value) (wr : World) : Prop :=
  ∃ (k : Nat) (R : List Nat), k ≤ a.length ∧ i = .int .i64 k ∧ R.length = N ∧ okL R ∧ val R = val (a.take k) * val b ∧ Row wr g R ∧ Below w.heap.size w wr

set_option maxRecDepth 100000 in
set_option maxHeartbeats 2000000 in
theorem product_any (va vb : Value) (a b : List Nat) (w : World) (ha : Lim w w.heap.size va a) (hb : Lim w w.heap.size vb b) (hla : a.length ≤ 100000000) (hlb : b.length ≤ 100000000) :
    Calls Tryd.prog 90 #[va, vb] w (NumPost w (val a * val b)) := by
  obtain ⟨A, capa, rfl, hcapa⟩ := ha.form
  obtain ⟨B, capb, rfl, hcapb⟩ := hb.form
  obtain ⟨N, hN, hN'⟩ : ∃ N, N ≤ a.length + b.length ∧ a.length + b.length ≤ N := ⟨_, Nat.le_refl _, Nat.le_refl _⟩
  have hmk := fun W => mkI ((a.length : Int) + (b.length : Int)) N (by omega) (by omega) W
  have hb0 : Below w.heap.size w (w.alloc (.cells (zeros N).toArray 97)) := (Below.refl _ _).alloc (Nat.le_refl _) _
  have hr0 := Row.new w N
  have HA := Lib.hid ha
  have HB := Lib.hid hb
  have HR0 := Lib.hid hr0
  clear ha hb hr0
  go_enter Tryd.func90, Tryd.ntmps90
  go_wp2
  go_loopw [15] (fun i wr => MuRel w w.heap.size N a b i wr) (fun i _ => a.length - (intOf i).toNat)
  case atStart => exact ⟨0, List.replicate N 0, Nat.zero_le _, rfl, by simp, okL_zero N, by rw [val_zero]; simp [val], HR0.out, hb0⟩
  case round =>
    obtain ⟨k, R, hk, rfl, hRl, hRo, hRv, hrow, hb1⟩ := hrel
    by_cases hlt : k < a.length
    · obtain ⟨x, hx⟩ : ∃ x, a[k]? = some x := ⟨a[k], List.getElem?_eq_getElem hlt⟩
      obtain ⟨g', o', rfl, hg', c0⟩ := (HA.out.below hb1).cell hx
      have hx1 := Lim.lt HA.out.2 hx
      have hkN : k < N := by omega
      have hadd := fun cap hc => addTimes_any w.heap.size w.heap.size k (N - k) cap R b (.slice B b.length capb) x wr.drew hrow hRo (HB.out.below hb1.drew) (Nat.le_refl _) hb1.size hx1 (by omega) (by omega) (by omega) hc
      have HX := Lib.hid hx
      have HAD := Lib.hid hadd
      clear hx hadd
      go_wp2
      go_region_with (go_at_call 105; refine (HAD.out _ (by omega)).mono ?_; rintro e w2 ⟨⟨v, rfl⟩, r, hrl, hro, ⟨cy, hrv⟩, hrow2, hgr, hz⟩)
      all_goals
        have hst := mul_step HA.out.2 HB.out.2 hRl HX.out (by omega) hRv hrv hrl
        have hb2 := below_grown hb1.drew hgr (Nat.le_refl _)
        have HST := Lib.hid hst
        have hrl2 := Lib.hid hrl
        clear hst hrv hRv hrl
        go_wp2
        go_roundw
        case rel => exact ⟨k + 1, upd R k r, by omega, by go_num, by rw [upd_len R k r (by have := hrl2.out; omega)]; exact hRl, upd_ok k hRo hro, HST.out, hrow2, hb2⟩
        case measure => simp [intOf]; omega
    · obtain rfl : k = a.length := by omega
      rw [List.take_length] at hRv
      have hlim := hrow.whole hRo N (by omega)
      rw [hRl] at hlim
      have HV := Lib.hid hRv
      have HL := Lib.hid hlim
      clear hRv hlim hrow
      go_wp2_with (go_at_call 75; refine (trim_any _ _ _ HL.out (by omega)).mono ?_; rintro e w3 ⟨v', rfl, hnum, rfl⟩)
      go_ret
      exact ⟨_, rfl, by rw [HV.out] at hnum; exact hnum, hb1⟩
end Go.Proofs.YtokkcmadgcdpiaaDoor.Wd
