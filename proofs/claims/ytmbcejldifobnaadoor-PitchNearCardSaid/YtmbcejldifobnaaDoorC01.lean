import Derived.Test.YtmbcejldifobnaaDoorRows
import Derived.Test.YtmbcejldifobnaaDoorTie
import Derived.WalkKit
import Derived.WalkSpells
import Derived.WalkLawsBesides
import Derived.OpenShut
import Derived.Lib.Hide
import Derived.Lib.SmallJoins
import Derived.BigQuiet
import Derived.Deep.QuietTactic
import Derived.Deep.RegionHeld3
import Derived.Deep.AppendLies
import Derived.Maps.AppendAt
import Derived.Laws.OwnMore
import Derived.Deep.Draws
import Derived.IntWalk
import Derived.Shelf.Small.Bits
import Derived.Shelf.Strconv.Itoa0
import Derived.Shelf.LaysM
import Derived.Shelf.Bits.Mul64
import Derived.Test.YtmbcejldifobnaaDoorProg
import Derived.Laws.Externs
namespace Go.Proofs.YtmbcejldifobnaaDoor
open Go.RowKit
theorem ret_bool {a b : Bool} (h : a = b) : Ending.returned (.bool a) = .returned (.bool b) := by rw [h]
theorem ret_int {k : IntKind} {a b : Int} (h : a = b) : Ending.returned (.int k a) = .returned (.int k b) := by rw [h]
theorem below_drewN (W : World) (n : Nat) : Below W.heap.size W (W.drewN n) := by
  induction n with
  | zero => exact Below.refl _ _
  | succ n ih => exact ih.drew
theorem drewN_drewN (w : World) (a b : Nat) : (w.drewN a).drewN b = w.drewN (a + b) := World.drewN_drewN _ _ _
def Drawn (w w' : World) : Prop := ∃ n, w' = w.drewN n
theorem Drawn.below {w w' : World} (h : Drawn w w') : Below w.heap.size w w' := by obtain ⟨n, rfl⟩ := h; exact below_drewN w n
theorem Drawn.refl (w : World) : Drawn w w := ⟨0, rfl⟩
theorem Drawn.trans {w w1 w2 : World} (h : Drawn w w1) (h' : Drawn w1 w2) : Drawn w w2 := by
  obtain ⟨a, rfl⟩ := h; obtain ⟨b, rfl⟩ := h'; exact ⟨a + b, drewN_drewN _ _ _⟩
theorem Drawn.size {w w' : World} (h : Drawn w w') : w'.heap.size = w.heap.size := by
  obtain ⟨n, rfl⟩ := h; rfl
theorem add_eq (g j : Nat) : (⟨g, 0, none⟩ : Addr).add j = ⟨g, j, none⟩ := by
  unfold Addr.add; by_cases h : j = 0 <;> simp [h]
/-- The slice value v reads as these cells, an element a cell, in a block below B. -/
def SlC (w : World) (B : Nat) (v : Value) (cs : List Value) : Prop :=
  ∃ A cap, v = .slice A cs.length cap ∧ cs.length ≤ cap ∧ (cs ≠ [] → ∃ g o, A = some ⟨g, o, none⟩ ∧ g < B ∧ ∀ k x, cs[k]? = some x → w.cell? ⟨g, o + k, none⟩ = some x)
theorem SlC.keep {w w' : World} {B : Nat} {v : Value} {cs : List Value} (h : SlC w B v cs) (hk : ∀ g i, g < B → w'.cell? ⟨g, i, none⟩ = w.cell? ⟨g, i, none⟩) : SlC w' B v cs := by
  obtain ⟨A, cap, rfl, hc, h⟩ := h
  refine ⟨A, cap, rfl, hc, fun hne => ?_⟩
  obtain ⟨g, o, rfl, hg, hx⟩ := h hne
  exact ⟨g, o, rfl, hg, fun k x hk' => (hk g _ hg).trans (hx k x hk')⟩
theorem SlC.below {w w' : World} {B : Nat} {v : Value} {cs : List Value} (h : SlC w B v cs) (hb : Below B w w') : SlC w' B v cs := h.keep fun g i hg => hb.cell (p := ⟨g, i, none⟩) hg
theorem SlC.more {w : World} {B B' : Nat} {v : Value} {cs : List Value} (h : SlC w B v cs) (hB : B ≤ B') : SlC w B' v cs := by
  obtain ⟨A, cap, rfl, hc, h⟩ := h
  exact ⟨A, cap, rfl, hc, fun hne => let ⟨g, o, e, hg, hx⟩ := h hne; ⟨g, o, e, by omega, hx⟩⟩
theorem SlC.up {w w' : World} {v : Value} {cs : List Value} (h : SlC w w.heap.size v cs) (hb : Below w.heap.size w w') : SlC w' w'.heap.size v cs := (h.below hb).more hb.size
theorem SlC.nil (w : World) (B c : Nat) (A : Option Addr) : SlC w B (.slice A 0 c) [] := ⟨A, c, rfl, Nat.zero_le _, fun h => absurd rfl h⟩
theorem SlC.cell {w : World} {B : Nat} {A : Option Addr} {n cap : Nat} {cs : List Value} (h : SlC w B (.slice A n cap) cs) {k : Nat} {x : Value} (hx : cs[k]? = some x) :
    ∃ g o, A = some ⟨g, o, none⟩ ∧ g < B ∧ w.cell? ⟨g, o + k, none⟩ = some x := by
  obtain ⟨A', cap', e, _, h⟩ := h
  cases e
  obtain ⟨g, o, rfl, hg, hh⟩ := h (by rintro rfl; simp at hx)
  exact ⟨g, o, rfl, hg, hh k x hx⟩
theorem SlC.form {w : World} {B : Nat} {v : Value} {cs : List Value} (h : SlC w B v cs) : ∃ A cap, v = .slice A cs.length cap ∧ cs.length ≤ cap := by
  obtain ⟨A, cap, e, hc, _⟩ := h; exact ⟨A, cap, e, hc⟩
/-- The first elements. -/
theorem SlC.take {w : World} {B : Nat} {A : Option Addr} {n cap : Nat} {cs : List Value} (h : SlC w B (.slice A n cap) cs) (k : Nat) (hk : k ≤ n) : SlC w B (.slice A k cap) (cs.take k) := by
  obtain ⟨A', cap', e, hc, h⟩ := h
  cases e
  refine ⟨A, cap, by rw [List.length_take, Nat.min_eq_left hk], by rw [List.length_take]; omega, fun hne => ?_⟩
  have hne' : cs ≠ [] := by rintro rfl; simp at hne
  obtain ⟨g, o, rfl, hg, hh⟩ := h hne'
  refine ⟨g, o, rfl, hg, fun j x hx => hh j x ?_⟩
  rw [List.getElem?_take] at hx
  split at hx
  · exact hx
  · cases hx
theorem grownBy_trans {a b c : World} {row : Option Nat} (h : a.grownBy b row) (k : b.grownBy c row) : a.grownBy c row :=
  ⟨k.os.trans h.os, k.tape.trans h.tape, k.output.trans h.output, Nat.le_trans h.size k.size, fun i hi hne => (k.block i (Nat.lt_of_lt_of_le hi h.size) hne).trans (h.block i hi hne)⟩
theorem grownBy_refl (a : World) (row : Option Nat) : a.grownBy a row := ⟨rfl, rfl, rfl, Nat.le_refl _, fun _ _ _ => rfl⟩
theorem grownBy_drewN (a : World) (row : Option Nat) (n : Nat) : a.grownBy (a.drewN n) row := by
  have h := below_drewN a n
  exact ⟨h.os, h.tape, h.output, h.size, fun i hi _ => h.block i hi⟩
theorem grownBy_set {a w : World} {g : Nat} (h : a.grownBy w (some g)) (i : Nat) (u : Value) : a.grownBy (w.setCell ⟨g, i, none⟩ u) (some g) :=
  ⟨h.os, h.tape, h.output, by simpa [World.setCell] using h.size, fun j hj hne => (Below.heap_setCell w ⟨g, i, none⟩ u j (by rintro rfl; exact hne rfl)).trans (h.block j hj hne)⟩
theorem SlC.grown {w w' : World} {B g : Nat} {v : Value} {cs : List Value} (h : SlC w B v cs) (hg : w.grownBy w' (some g)) (hB : B ≤ g) (hBw : B ≤ w.heap.size) : SlC w' B v cs :=
  h.keep fun b i hb => World.cell?_of_block (a := ⟨b, i, none⟩) (hg.block b (by omega) (fun e => by cases e; omega))
end Go.Proofs.YtmbcejldifobnaaDoor

namespace Go.Proofs.YtmbcejldifobnaaDoor
def st (p n : Nat) : Nat × Nat := if h : 2 ≤ p ∧ n ≠ 0 ∧ n % p = 0 then ((st p (n / p)).1, (st p (n / p)).2 + 1) else (n, 0)
termination_by n
decreasing_by all_goals exact Nat.div_lt_self (by omega) (by omega)
theorem st_hit {p n : Nat} (hp : 2 ≤ p) (hn : n ≠ 0) (h : n % p = 0) : st p n = ((st p (n / p)).1, (st p (n / p)).2 + 1) := by
  rw [st, dif_pos ⟨hp, hn, h⟩]
theorem st_miss {p n : Nat} (h : n % p ≠ 0) : st p n = (n, 0) := by
  rw [st, dif_neg (fun h2 => h h2.2.2)]
theorem st_spec {p : Nat} (hp : 2 ≤ p) (n : Nat) (hn : n ≠ 0) : n = (st p n).1 * p ^ (st p n).2 ∧ (st p n).1 % p ≠ 0 := by
  induction n using Nat.strongRecOn with
  | _ n ih =>
    by_cases h : n % p = 0
    · have hd : n / p ≠ 0 := by
        intro h0
        have := Nat.div_add_mod n p
        rw [h0, h] at this; simp at this; omega
      obtain ⟨i1, i2⟩ := ih (n / p) (Nat.div_lt_self (by omega) (by omega)) hd
      rw [st_hit hp hn h]
      refine ⟨?_, i2⟩
      show n = (st p (n / p)).1 * p ^ ((st p (n / p)).2 + 1)
      rw [Nat.pow_succ, ← Nat.mul_assoc, ← i1]
      have := Nat.div_add_mod n p
      rw [h, Nat.add_zero, Nat.mul_comm] at this
      exact this.symm
    · rw [st_miss h]
      exact ⟨by simp, h⟩
theorem st_unique {p r k n : Nat} (hp : 2 ≤ p) (hr : r % p ≠ 0) (h : n = r * p ^ k) : st p n = (r, k) := by
  induction k generalizing n with
  | zero =>
    rw [Nat.pow_zero, Nat.mul_one] at h
    subst h
    exact st_miss hr
  | succ k ih =>
    have hr0 : r ≠ 0 := by rintro rfl; simp at hr
    have e : n = r * p ^ k * p := by rw [h, Nat.pow_succ, Nat.mul_assoc]
    have hn : n ≠ 0 := by rw [e]; exact Nat.mul_ne_zero (Nat.mul_ne_zero hr0 (Nat.ne_of_gt (Nat.pow_pos (by omega)))) (by omega)
    have hm : n % p = 0 := by rw [e]; exact Nat.mul_mod_left _ _
    have hd : n / p = r * p ^ k := by rw [e]; exact Nat.mul_div_cancel _ (by omega)
    rw [st_hit hp hn hm, hd, ih rfl]
/-- A number that divides a factor of each product that it divides. -/
def primeN (p : Nat) : Prop := 2 ≤ p ∧ ∀ a b : Nat, a % p ≠ 0 → b % p ≠ 0 → a * b % p ≠ 0
theorem st_pos {p n : Nat} (hp : 2 ≤ p) (hn : n ≠ 0) : (st p n).1 ≠ 0 := by
  have := (st_spec hp n hn).2
  intro h; rw [h] at this; simp at this
theorem prime_of (p : Nat) (hp : 2 ≤ p) (h : ∀ x : Fin p, ∀ y : Fin p, x.val ≠ 0 → y.val ≠ 0 → x.val * y.val % p ≠ 0) : primeN p := by
  refine ⟨hp, fun a b ha hb => ?_⟩
  rw [Nat.mul_mod]
  exact h ⟨a % p, Nat.mod_lt _ (by omega)⟩ ⟨b % p, Nat.mod_lt _ (by omega)⟩ ha hb
theorem prime2 : primeN 2 := prime_of 2 (by omega) (by decide)
theorem prime3 : primeN 3 := prime_of 3 (by omega) (by decide)
theorem prime5 : primeN 5 := prime_of 5 (by omega) (by decide)
theorem prime7 : primeN 7 := prime_of 7 (by omega) (by decide +kernel)
theorem prime11 : primeN 11 := prime_of 11 (by omega) (by decide +kernel)
theorem prime13 : primeN 13 := prime_of 13 (by omega) (by decide +kernel)
/-- Several numbers taken out, one after the other: what is left, and how often each was there. -/
def sts : List Nat → Nat → Nat × List Nat
  | [], n => (n, [])
  | p :: r, n => ((sts r (st p n).1).1, (st p n).2 :: (sts r (st p n).1).2)
theorem sts_pos : ∀ (ps : List Nat), (∀ p ∈ ps, primeN p) → ∀ n : Nat, n ≠ 0 → (sts ps n).1 ≠ 0
  | [], _, _, h => h
  | p :: r, h, n, hn => sts_pos r (fun q hq => h q (by simp [hq])) _ (st_pos (h p (by simp)).1 hn)
theorem sts_len : ∀ (ps : List Nat) (n : Nat), (sts ps n).2.length = ps.length
  | [], _ => rfl
  | p :: r, n => by show ((sts r (st p n).1).2).length + 1 = _; rw [sts_len r]; rfl
end Go.Proofs.YtmbcejldifobnaaDoor

namespace Go.Proofs.YtmbcejldifobnaaDoor
open Go.RowKit
theorem within_yes (n a b : Int) (w : World) (h1 : a ≤ n) (h2 : n ≤ b) : Calls Tryd.prog 96 #[.int .i64 n, .int .i64 a, .int .i64 b] w fun e w' => e = .returned (.bool true) ∧ w = w' := by
  go_enter Tryd.func96, Tryd.ntmps96
  go_wp2
  go_ret
  exact ⟨rfl, rfl⟩
theorem within_no (n a b : Int) (w : World) (h : n < a ∨ b < n) : Calls Tryd.prog 96 #[.int .i64 n, .int .i64 a, .int .i64 b] w fun e w' => e = .returned (.bool false) ∧ w = w' := by
  by_cases h1 : a ≤ n
  · have h2 : ¬ n ≤ b := by omega
    clear h
    go_enter Tryd.func96, Tryd.ntmps96
    go_wp2
    go_ret
    exact ⟨rfl, rfl⟩
  · clear h
    go_enter Tryd.func96, Tryd.ntmps96
    go_wp2
    go_ret
    exact ⟨rfl, rfl⟩
def wiB (n a b : Int) : Bool := decide (a ≤ n) && decide (n ≤ b)
theorem within_any (n a b : Int) (w : World) : Calls Tryd.prog 96 #[.int .i64 n, .int .i64 a, .int .i64 b] w fun e w' => e = .returned (.bool (wiB n a b)) ∧ w = w' := by
  by_cases h : a ≤ n ∧ n ≤ b
  · have e : wiB n a b = true := by unfold wiB; rw [decide_eq_true h.1, decide_eq_true h.2]; rfl
    rw [e]; exact within_yes n a b w h.1 h.2
  · have e : wiB n a b = false := by
      unfold wiB
      rw [Bool.and_eq_false_iff, decide_eq_false_iff_not, decide_eq_false_iff_not]
      omega
    rw [e]; exact within_no n a b w (by omega)
theorem gcd_step (x y : Int) : Nat.gcd y.natAbs (x.tmod y).natAbs = Nat.gcd x.natAbs y.natAbs := by
  rw [Int.natAbs_tmod, Nat.gcd_comm x.natAbs, Nat.gcd_rec y.natAbs x.natAbs, Nat.gcd_comm]
def GcRel (w : World) (G : Nat) (M : Int) (va vb : Value) (wr : World) : Prop := ∃ x y : Int, va = .int .i64 x ∧ vb = .int .i64 y ∧ -M ≤ x ∧ x ≤ M ∧ -M ≤ y ∧ y ≤ M ∧ Nat.gcd x.natAbs y.natAbs = G ∧ Drawn w wr
def mAbs : Value → Nat
  | .int _ n => n.natAbs
  | _ => 0
set_option maxHeartbeats 1000000 in
theorem gcd_int64 (a b M : Int) (w : World) (h1 : -M ≤ a) (h2 : a ≤ M) (h3 : -M ≤ b) (h4 : b ≤ M) (hM : M ≤ 9223372036854775807) :
    Calls Tryd.prog 146 #[.int .i64 a, .int .i64 b] w fun e w' => e = .returned (.int .i64 ((Nat.gcd a.natAbs b.natAbs : Nat) : Int)) ∧ Drawn w w' := by
  obtain ⟨G, hG⟩ : ∃ G, G = Nat.gcd a.natAbs b.natAbs := ⟨_, rfl⟩
  rw [← hG]
  have HG := Lib.hid hG.symm
  clear hG
  go_enter Tryd.func146, Tryd.ntmps146
  go_wp2
  go_loopw [0, 1] (fun va vb wr => GcRel w G M va vb wr) (fun _ vb _ => mAbs vb)
  case atStart => exact ⟨a, b, rfl, rfl, h1, h2, h3, h4, HG.out, Drawn.refl w⟩
  case round =>
    obtain ⟨x, y, rfl, rfl, x1, x2, y1, y2, hg, hdr⟩ := hrel
    have HH := Lib.hid hg
    have HDR := Lib.hid hdr
    clear hg hdr
    by_cases hy : y = 0
    · subst hy
      have hxG : (G : Int) = max x (-x) := by
        have h := HH.out
        rw [Int.natAbs_zero, Nat.gcd_zero_right] at h
        omega
      have HX := Lib.hid hxG
      clear hxG
      go_wp2
      all_goals
        go_ret
        exact ⟨ret_int (by have := HX.out; omega), HDR.out⟩
    · have q1 : (y == 0) = false := beq_false_of_ne hy
      have q2 : (y != 0) = true := by simp [hy]
      have hst := gcd_step x y
      rw [HH.out] at hst
      have hlt : (x.tmod y).natAbs < y.natAbs := by rw [Int.natAbs_tmod]; exact Nat.mod_lt _ (by omega)
      have HST := Lib.hid hst
      have HLT := Lib.hid hlt
      clear hst hlt
      go_wp2
      go_quiet (fail)
      go_wp2
      first
        | exact ⟨⟨y, _, rfl, rfl, y1, y2, by have := HLT.out; omega, by have := HLT.out; omega, HST.out, HDR.out.trans ⟨_, rfl⟩⟩, HLT.out⟩
        | (go_roundw
           case rel => exact ⟨y, _, rfl, rfl, y1, y2, by have := HLT.out; omega, by have := HLT.out; omega, HST.out, HDR.out.trans ⟨_, rfl⟩⟩
           case measure => exact HLT.out)
set_option maxHeartbeats 1000000 in
theorem gcd_int (a b M : Int) (w : World) (h1 : -M ≤ a) (h2 : a ≤ M) (h3 : -M ≤ b) (h4 : b ≤ M) (hM : M ≤ 9223372036854775807) :
    Calls Tryd.prog 143 #[.int .i64 a, .int .i64 b] w fun e w' => e = .returned (.int .i64 ((Nat.gcd a.natAbs b.natAbs : Nat) : Int)) ∧ Drawn w w' := by
  obtain ⟨G, hG⟩ : ∃ G, G = Nat.gcd a.natAbs b.natAbs := ⟨_, rfl⟩
  rw [← hG]
  have HG := Lib.hid hG.symm
  clear hG
  go_enter Tryd.func143, Tryd.ntmps143
  go_wp2
  go_loopw [0, 1] (fun va vb wr => GcRel w G M va vb wr) (fun _ vb _ => mAbs vb)
  case atStart => exact ⟨a, b, rfl, rfl, h1, h2, h3, h4, HG.out, Drawn.refl w⟩
  case round =>
    obtain ⟨x, y, rfl, rfl, x1, x2, y1, y2, hg, hdr⟩ := hrel
    have HH := Lib.hid hg
    have HDR := Lib.hid hdr
    clear hg hdr
    by_cases hy : y = 0
    · subst hy
      have hxG : (G : Int) = max x (-x) := by
        have h := HH.out
        rw [Int.natAbs_zero, Nat.gcd_zero_right] at h
        omega
      have HX := Lib.hid hxG
      clear hxG
      go_wp2
      all_goals
        go_ret
        exact ⟨ret_int (by have := HX.out; omega), HDR.out⟩
    · have q1 : (y == 0) = false := beq_false_of_ne hy
      have q2 : (y != 0) = true := by simp [hy]
      have hst := gcd_step x y
      rw [HH.out] at hst
      have hlt : (x.tmod y).natAbs < y.natAbs := by rw [Int.natAbs_tmod]; exact Nat.mod_lt _ (by omega)
      have HST := Lib.hid hst
      have HLT := Lib.hid hlt
      clear hst hlt
      go_wp2
      go_quiet (fail)
      go_wp2
      first
        | exact ⟨⟨y, _, rfl, rfl, y1, y2, by have := HLT.out; omega, by have := HLT.out; omega, HST.out, HDR.out.trans ⟨_, rfl⟩⟩, HLT.out⟩
        | (go_roundw
           case rel => exact ⟨y, _, rfl, rfl, y1, y2, by have := HLT.out; omega, by have := HLT.out; omega, HST.out, HDR.out.trans ⟨_, rfl⟩⟩
           case measure => exact HLT.out)
end Go.Proofs.YtmbcejldifobnaaDoor

namespace Go.Proofs.YtmbcejldifobnaaDoor
def sqB (F m : Nat) : Bool := decide (2 * F * F ≤ m * m)
def sqM (F m : Nat) : Nat := if sqB F m then m * m / (2 * F) else m * m / F
/-- The mantissa and the whole number after j squarings. -/
def tmM (K N : Nat) : Nat → Nat
  | 0 => N * 2 ^ (K - Nat.log2 N)
  | j + 1 => sqM (2 ^ K) (tmM K N j)
def tmE (K N : Nat) : Nat → Nat
  | 0 => Nat.log2 N
  | j + 1 => 2 * tmE K N j + (if sqB (2 ^ K) (tmM K N j) then 1 else 0)
structure TmOk (F N j m e : Nat) : Prop where
  lo : F ≤ m
  hi : m < 2 * F
  le : m * 2 ^ e ≤ F * N ^ (2 ^ j)
  ge : F * N ^ (2 ^ j) * F ^ (2 ^ j - 1) ≤ m * 2 ^ e * (F + 1) ^ (2 ^ j - 1)
theorem two_pow_pred (j : Nat) : 2 ^ (j + 1) - 1 = (2 ^ j - 1) + (2 ^ j - 1) + 1 := by
  have h : 0 < 2 ^ j := Nat.pow_pos (by omega)
  rw [Nat.pow_succ]; omega
theorem pow_dbl (N j : Nat) : N ^ (2 ^ (j + 1)) = N ^ (2 ^ j) * N ^ (2 ^ j) := by
  rw [Nat.pow_succ, Nat.mul_two, Nat.pow_add]
/-- One step; b: halved. G = F 2^b. -/
theorem tm_step {F N j m e m' b : Nat} (hF : 0 < F) (h : TmOk F N j m e) (hm : m' = m * m / (F * 2 ^ b)) (hlo : F ≤ m') (hhi : m' < 2 * F) : TmOk F N (j + 1) m' (2 * e + b) := by
  have hG : 0 < F * 2 ^ b := Nat.mul_pos hF (Nat.pow_pos (by omega))
  have h1 : m' * (F * 2 ^ b) ≤ m * m := by rw [hm]; exact Nat.div_mul_le_self _ _
  have h2 : m * m < (m' + 1) * (F * 2 ^ b) := by rw [hm, Nat.mul_comm (m * m / (F * 2 ^ b) + 1)]; exact Nat.lt_mul_div_succ _ hG
  refine ⟨hlo, hhi, ?_, ?_⟩
  · have h3 := Nat.mul_le_mul h.le h.le
    rw [pow_dbl]
    generalize N ^ (2 ^ j) = X at *
    have e1 : m * 2 ^ e * (m * 2 ^ e) = m * m * (2 ^ e * 2 ^ e) := by ac_rfl
    rw [e1] at h3
    have h4 := Nat.mul_le_mul_right (2 ^ e * 2 ^ e) h1
    have h5 := Nat.le_trans h4 h3
    have e2 : m' * (F * 2 ^ b) * (2 ^ e * 2 ^ e) = F * (m' * 2 ^ (2 * e + b)) := by
      rw [Nat.pow_add, Nat.two_mul, Nat.pow_add]; ac_rfl
    have e3 : F * X * (F * X) = F * (F * (X * X)) := by ac_rfl
    rw [e2, e3] at h5
    exact Nat.le_of_mul_le_mul_left h5 hF
  · have h3 := Nat.mul_le_mul h.ge h.ge
    rw [pow_dbl, two_pow_pred]
    generalize N ^ (2 ^ j) = X at *
    generalize 2 ^ j - 1 = p at *
    have h4 : (m' + 1) * F ≤ m' * (F + 1) := by rw [Nat.add_mul, Nat.mul_add]; omega
    have h5 : m * m * (2 ^ e * 2 ^ e) ≤ m' * (F + 1) * (2 ^ b * (2 ^ e * 2 ^ e)) := by
      have a1 := Nat.mul_le_mul_right (2 ^ e * 2 ^ e) (Nat.le_of_lt h2)
      have a2 := Nat.mul_le_mul_right (2 ^ b * (2 ^ e * 2 ^ e)) h4
      have e1 : (m' + 1) * (F * 2 ^ b) * (2 ^ e * 2 ^ e) = (m' + 1) * F * (2 ^ b * (2 ^ e * 2 ^ e)) := by ac_rfl
      rw [e1] at a1
      exact Nat.le_trans a1 a2
    have h6 := Nat.mul_le_mul_right ((F + 1) ^ p * (F + 1) ^ p) h5
    have e1 : m * 2 ^ e * (F + 1) ^ p * (m * 2 ^ e * (F + 1) ^ p) = m * m * (2 ^ e * 2 ^ e) * ((F + 1) ^ p * (F + 1) ^ p) := by ac_rfl
    rw [e1] at h3
    have h7 := Nat.le_trans h3 h6
    have e2 : F * X * F ^ p * (F * X * F ^ p) = F * (X * X) * (F ^ (p + p + 1)) := by
      rw [Nat.pow_add, Nat.pow_add, Nat.pow_one]; ac_rfl
    have e3 : m' * (F + 1) * (2 ^ b * (2 ^ e * 2 ^ e)) * ((F + 1) ^ p * (F + 1) ^ p) = m' * 2 ^ (2 * e + b) * (F + 1) ^ (p + p + 1) := by
      rw [Nat.pow_add 2, Nat.two_mul, Nat.pow_add 2, Nat.pow_add, Nat.pow_add, Nat.pow_one]; ac_rfl
    rw [e2, e3] at h7
    exact h7
theorem sq_ok {F m : Nat} (hF : 0 < F) (lo : F ≤ m) (hi : m < 2 * F) : F ≤ sqM F m ∧ sqM F m < 2 * F ∧ sqM F m = m * m / (F * 2 ^ (if sqB F m then 1 else 0)) := by
  unfold sqM
  have h1 : F * F ≤ m * m := Nat.mul_le_mul lo lo
  have h2 : m * m < 2 * F * (2 * F) := Nat.mul_lt_mul_of_lt_of_lt hi hi
  cases hb : sqB F m
  · have h3 : m * m < 2 * F * F := by
      unfold sqB at hb
      have := of_decide_eq_false hb
      omega
    simp only [Bool.false_eq_true, if_false, Nat.pow_zero, Nat.mul_one]
    exact ⟨(Nat.le_div_iff_mul_le hF).2 h1, (Nat.div_lt_iff_lt_mul hF).2 h3, by first | rfl | trivial⟩
  · have h3 : 2 * F * F ≤ m * m := by
      unfold sqB at hb
      exact of_decide_eq_true hb
    simp only [if_true, Nat.pow_one]
    refine ⟨(Nat.le_div_iff_mul_le (by omega)).2 (by rw [Nat.mul_comm F]; exact h3), (Nat.div_lt_iff_lt_mul (by omega)).2 h2, by rw [Nat.mul_comm F 2]⟩
theorem tm_ok {K N : Nat} (hN : 1 ≤ N) (hK : Nat.log2 N ≤ K) : ∀ j, TmOk (2 ^ K) N j (tmM K N j) (tmE K N j)
  | 0 => by
    have h1 : 2 ^ Nat.log2 N ≤ N := Nat.log2_self_le (by omega)
    have h2 : N < 2 ^ (Nat.log2 N + 1) := Nat.lt_log2_self
    have e : 2 ^ K = 2 ^ Nat.log2 N * 2 ^ (K - Nat.log2 N) := by rw [← Nat.pow_add]; congr 1; omega
    have hp : 0 < 2 ^ (K - Nat.log2 N) := Nat.pow_pos (by omega)
    refine ⟨?_, ?_, ?_, ?_⟩
    · show 2 ^ K ≤ N * 2 ^ (K - Nat.log2 N)
      rw [e]; exact Nat.mul_le_mul_right _ h1
    · show N * 2 ^ (K - Nat.log2 N) < 2 * 2 ^ K
      rw [e, ← Nat.mul_assoc, ← Nat.pow_succ']; exact Nat.mul_lt_mul_of_pos_right h2 hp
    · show N * 2 ^ (K - Nat.log2 N) * 2 ^ Nat.log2 N ≤ 2 ^ K * N ^ 1
      rw [e, Nat.pow_one]; exact Nat.le_of_eq (by ac_rfl)
    · show 2 ^ K * N ^ 1 * (2 ^ K) ^ 0 ≤ N * 2 ^ (K - Nat.log2 N) * 2 ^ Nat.log2 N * (2 ^ K + 1) ^ 0
      rw [e, Nat.pow_one, Nat.pow_zero, Nat.pow_zero]; exact Nat.le_of_eq (by ac_rfl)
  | j + 1 => by
    have ih := tm_ok hN hK j
    have hF : 0 < 2 ^ K := Nat.pow_pos (by omega)
    obtain ⟨a, b, c⟩ := sq_ok hF ih.lo ih.hi
    exact tm_step hF ih c a b
/-- (1 + 1/F)^p is at most F / (F - p). -/
theorem bern (F : Nat) : ∀ p, p ≤ F → (F + 1) ^ p * (F - p) ≤ F ^ (p + 1)
  | 0, _ => by simp
  | p + 1, h => by
    have ih := bern F p (by omega)
    obtain ⟨d, rfl⟩ : ∃ d, F = p + 1 + d := ⟨F - (p + 1), by omega⟩
    have e1 : p + 1 + d - p = d + 1 := by omega
    have e2 : p + 1 + d - (p + 1) = d := by omega
    rw [e1] at ih
    rw [e2, Nat.pow_succ, Nat.pow_succ (m := p + 1)]
    have h1 : (p + 1 + d + 1) * d ≤ (p + 1 + d) * (d + 1) := by
      rw [Nat.add_mul _ 1, Nat.mul_add _ d 1]; omega
    calc (p + 1 + d + 1) ^ p * (p + 1 + d + 1) * d = (p + 1 + d + 1) ^ p * ((p + 1 + d + 1) * d) := by rw [Nat.mul_assoc]
      _ ≤ (p + 1 + d + 1) ^ p * ((p + 1 + d) * (d + 1)) := Nat.mul_le_mul_left _ h1
      _ = (p + 1 + d + 1) ^ p * (d + 1) * (p + 1 + d) := by ac_rfl
      _ ≤ (p + 1 + d) ^ (p + 1) * (p + 1 + d) := Nat.mul_le_mul_right _ ih
theorem bern_two {F p : Nat} (hF : 0 < F) (h : 2 * p ≤ F) : (F + 1) ^ p ≤ 2 * F ^ p := by
  have h1 := bern F p (by omega)
  rw [Nat.pow_succ] at h1
  have h2 : F ≤ 2 * (F - p) := by omega
  have h3 : (F + 1) ^ p * F ≤ 2 * F ^ p * F :=
    calc (F + 1) ^ p * F ≤ (F + 1) ^ p * (2 * (F - p)) := Nat.mul_le_mul_left _ h2
      _ = 2 * ((F + 1) ^ p * (F - p)) := by ac_rfl
      _ ≤ 2 * (F ^ p * F) := Nat.mul_le_mul_left _ h1
      _ = 2 * F ^ p * F := by rw [Nat.mul_assoc]
  exact Nat.le_of_mul_le_mul_right h3 hF
/-- What the whole number says of the power. -/
theorem tm_bounds {K N j : Nat} (hN : 1 ≤ N) (hK : Nat.log2 N ≤ K) (hj : j + 1 ≤ K) : 2 ^ tmE K N j ≤ N ^ (2 ^ j) ∧ N ^ (2 ^ j) < 2 ^ (tmE K N j + 2) := by
  have h := tm_ok hN hK j
  have hF : 0 < 2 ^ K := Nat.pow_pos (by omega)
  have hj2 : 2 * (2 ^ j - 1) ≤ 2 ^ K := by
    have h1 : 2 ^ (j + 1) ≤ 2 ^ K := Nat.pow_le_pow_right (by omega) hj
    rw [Nat.pow_succ] at h1; omega
  obtain ⟨lo, hi, le, ge⟩ := h
  generalize tmM K N j = m at *
  generalize tmE K N j = e at *
  generalize N ^ (2 ^ j) = X at *
  generalize 2 ^ j - 1 = p at *
  generalize 2 ^ K = F at *
  have hb := bern_two hF hj2
  have hFp : 0 < F ^ p := Nat.pow_pos hF
  constructor
  · have h1 : F * 2 ^ e ≤ F * X := Nat.le_trans (Nat.mul_le_mul_right _ lo) le
    exact Nat.le_of_mul_le_mul_left h1 hF
  · have h1 : F * X * F ^ p ≤ m * 2 ^ e * (2 * F ^ p) := Nat.le_trans ge (Nat.mul_le_mul_left _ hb)
    have e1 : m * 2 ^ e * (2 * F ^ p) = m * 2 ^ e * 2 * F ^ p := by ac_rfl
    rw [e1] at h1
    have h2 := Nat.le_of_mul_le_mul_right h1 hFp
    have h3 : m * 2 ^ e * 2 < 2 * F * 2 ^ e * 2 := by
      have hp : 0 < 2 ^ e := Nat.pow_pos (by omega)
      exact Nat.mul_lt_mul_of_pos_right (Nat.mul_lt_mul_of_pos_right hi hp) (by omega)
    have e2 : 2 * F * 2 ^ e * 2 = F * 2 ^ (e + 2) := by rw [Nat.pow_add]; rw [show (2 : Nat) ^ 2 = 2 * 2 from rfl]; ac_rfl
    rw [e2] at h3
    exact Nat.lt_of_mul_lt_mul_left (Nat.lt_of_le_of_lt h2 h3)
end Go.Proofs.YtmbcejldifobnaaDoor

namespace Go.Proofs.YtmbcejldifobnaaDoor
def upP : List (Nat × Int) → Nat
  | [] => 1
  | x :: r => x.1 ^ x.2.toNat * upP r
def dnP : List (Nat × Int) → Nat
  | [] => 1
  | x :: r => x.1 ^ (-x.2).toNat * dnP r
def upA : List (Nat × Int) → Nat
  | [] => 0
  | x :: r => x.2.toNat + upA r
def dnA : List (Nat × Int) → Nat
  | [] => 0
  | x :: r => (-x.2).toNat + dnA r
def upE (K j : Nat) : List (Nat × Int) → Nat
  | [] => 0
  | x :: r => x.2.toNat * tmE K x.1 j + upE K j r
def dnE (K j : Nat) : List (Nat × Int) → Nat
  | [] => 0
  | x :: r => (-x.2).toNat * tmE K x.1 j + dnE K j r
/-- The sum that the program keeps. -/
def sumE (K j : Nat) : List (Nat × Int) → Int
  | [] => 0
  | x :: r => x.2 * (tmE K x.1 j : Int) + sumE K j r
/-- Half of the doubt. -/
def absA : List (Nat × Int) → Int
  | [] => 0
  | x :: r => max x.2 (-x.2) + absA r
/-- 1, 0 or -1: the product is greater than 1, equal to it, less. -/
def sgnP (l : List (Nat × Int)) : Int := if upP l = dnP l then 0 else if dnP l < upP l then 1 else -1
def goodN (K : Nat) (l : List (Nat × Int)) : Prop := ∀ x ∈ l, 1 ≤ x.1 ∧ Nat.log2 x.1 ≤ K
theorem part_int (a : Int) : a = (a.toNat : Int) - ((-a).toNat : Int) := by omega
theorem abs_int (a : Int) : max a (-a) = (a.toNat : Int) + ((-a).toNat : Int) := by omega
theorem sumE_eq (K j : Nat) : ∀ l, sumE K j l = (upE K j l : Int) - (dnE K j l : Int)
  | [] => rfl
  | x :: r => by
    show x.2 * (tmE K x.1 j : Int) + sumE K j r = ((x.2.toNat * tmE K x.1 j + upE K j r : Nat) : Int) - (((-x.2).toNat * tmE K x.1 j + dnE K j r : Nat) : Int)
    rw [sumE_eq K j r, Int.natCast_add, Int.natCast_add, Int.natCast_mul, Int.natCast_mul]
    have h : x.2 * (tmE K x.1 j : Int) = (x.2.toNat : Int) * (tmE K x.1 j : Int) - ((-x.2).toNat : Int) * (tmE K x.1 j : Int) := by
      rw [← Int.sub_mul, ← part_int]
    rw [h]; omega
theorem absA_eq : ∀ l, absA l = (upA l : Int) + (dnA l : Int)
  | [] => rfl
  | x :: r => by
    show max x.2 (-x.2) + absA r = ((x.2.toNat + upA r : Nat) : Int) + (((-x.2).toNat + dnA r : Nat) : Int)
    rw [absA_eq r, abs_int]; omega
theorem upP_pos {K : Nat} : ∀ {l : List (Nat × Int)}, goodN K l → 0 < upP l
  | [], _ => Nat.one_pos
  | x :: r, h => Nat.mul_pos (Nat.pow_pos (h x (by simp)).1) (upP_pos (K := K) fun y hy => h y (by simp [hy]))
theorem dnP_pos {K : Nat} : ∀ {l : List (Nat × Int)}, goodN K l → 0 < dnP l
  | [], _ => Nat.one_pos
  | x :: r, h => Nat.mul_pos (Nat.pow_pos (h x (by simp)).1) (dnP_pos (K := K) fun y hy => h y (by simp [hy]))
theorem pow_comm' (n a q : Nat) : (n ^ a) ^ q = (n ^ q) ^ a := by rw [← Nat.pow_mul, ← Nat.pow_mul, Nat.mul_comm]
theorem up_lo {K j : Nat} (hj : j + 1 ≤ K) : ∀ {l : List (Nat × Int)}, goodN K l → 2 ^ upE K j l ≤ upP l ^ (2 ^ j)
  | [], _ => by show 2 ^ 0 ≤ 1 ^ _; rw [Nat.one_pow]; exact Nat.le_refl _
  | x :: r, h => by
    have ih := up_lo hj (l := r) fun y hy => h y (by simp [hy])
    have hx := (tm_bounds (h x (by simp)).1 (h x (by simp)).2 hj).1
    show 2 ^ (x.2.toNat * tmE K x.1 j + upE K j r) ≤ (x.1 ^ x.2.toNat * upP r) ^ (2 ^ j)
    rw [Nat.pow_add, Nat.mul_pow, pow_comm', Nat.mul_comm x.2.toNat, Nat.pow_mul]
    exact Nat.mul_le_mul (Nat.pow_le_pow_left hx _) ih
theorem up_hi {K j : Nat} (hj : j + 1 ≤ K) : ∀ {l : List (Nat × Int)}, goodN K l → upP l ^ (2 ^ j) ≤ 2 ^ (upE K j l + 2 * upA l)
  | [], _ => by show 1 ^ _ ≤ 2 ^ 0; rw [Nat.one_pow]; exact Nat.le_refl _
  | x :: r, h => by
    have ih := up_hi hj (l := r) fun y hy => h y (by simp [hy])
    have hx := (tm_bounds (h x (by simp)).1 (h x (by simp)).2 hj).2
    show (x.1 ^ x.2.toNat * upP r) ^ (2 ^ j) ≤ 2 ^ (x.2.toNat * tmE K x.1 j + upE K j r + 2 * (x.2.toNat + upA r))
    have e : x.2.toNat * tmE K x.1 j + upE K j r + 2 * (x.2.toNat + upA r) = (tmE K x.1 j + 2) * x.2.toNat + (upE K j r + 2 * upA r) := by
      rw [Nat.add_mul, Nat.mul_comm x.2.toNat]; omega
    rw [e, Nat.pow_add, Nat.mul_pow, pow_comm', Nat.pow_mul]
    exact Nat.mul_le_mul (Nat.pow_le_pow_left (Nat.le_of_lt hx) _) ih
theorem dn_lo {K j : Nat} (hj : j + 1 ≤ K) : ∀ {l : List (Nat × Int)}, goodN K l → 2 ^ dnE K j l ≤ dnP l ^ (2 ^ j)
  | [], _ => by show 2 ^ 0 ≤ 1 ^ _; rw [Nat.one_pow]; exact Nat.le_refl _
  | x :: r, h => by
    have ih := dn_lo hj (l := r) fun y hy => h y (by simp [hy])
    have hx := (tm_bounds (h x (by simp)).1 (h x (by simp)).2 hj).1
    show 2 ^ ((-x.2).toNat * tmE K x.1 j + dnE K j r) ≤ (x.1 ^ (-x.2).toNat * dnP r) ^ (2 ^ j)
    rw [Nat.pow_add, Nat.mul_pow, pow_comm', Nat.mul_comm (-x.2).toNat, Nat.pow_mul]
    exact Nat.mul_le_mul (Nat.pow_le_pow_left hx _) ih
theorem dn_hi {K j : Nat} (hj : j + 1 ≤ K) : ∀ {l : List (Nat × Int)}, goodN K l → dnP l ^ (2 ^ j) ≤ 2 ^ (dnE K j l + 2 * dnA l)
  | [], _ => by show 1 ^ _ ≤ 2 ^ 0; rw [Nat.one_pow]; exact Nat.le_refl _
  | x :: r, h => by
    have ih := dn_hi hj (l := r) fun y hy => h y (by simp [hy])
    have hx := (tm_bounds (h x (by simp)).1 (h x (by simp)).2 hj).2
    show (x.1 ^ (-x.2).toNat * dnP r) ^ (2 ^ j) ≤ 2 ^ ((-x.2).toNat * tmE K x.1 j + dnE K j r + 2 * ((-x.2).toNat + dnA r))
    have e : (-x.2).toNat * tmE K x.1 j + dnE K j r + 2 * ((-x.2).toNat + dnA r) = (tmE K x.1 j + 2) * (-x.2).toNat + (dnE K j r + 2 * dnA r) := by
      rw [Nat.add_mul, Nat.mul_comm (-x.2).toNat]; omega
    rw [e, Nat.pow_add, Nat.mul_pow, pow_comm', Nat.pow_mul]
    exact Nat.mul_le_mul (Nat.pow_le_pow_left (Nat.le_of_lt hx) _) ih
theorem lt_of_two_pow {a b : Nat} (h : 2 ^ a ≤ 2 ^ b) : a ≤ b := (Nat.pow_le_pow_iff_right (by omega)).1 h
theorem pow_lt_of {a b q : Nat} (h : a ^ q < b ^ q) : a < b := by
  rcases Nat.lt_or_ge a b with h1 | h1
  · exact h1
  · exact absurd (Nat.pow_le_pow_left h1 q) (by omega)
/-- A sum beyond the doubt shows the sign. -/
theorem sum_up {K j : Nat} {l : List (Nat × Int)} (hj : j + 1 ≤ K) (hg : goodN K l) (h : 2 * absA l < sumE K j l) : dnP l < upP l := by
  rw [absA_eq, sumE_eq] at h
  have h1 := up_lo hj hg
  have h2 := dn_hi hj hg
  have h3 : 2 ^ (dnE K j l + 2 * dnA l) < 2 ^ upE K j l := Nat.pow_lt_pow_right (by omega) (by omega)
  exact pow_lt_of (Nat.lt_of_le_of_lt h2 (Nat.lt_of_lt_of_le h3 h1))
theorem sum_dn {K j : Nat} {l : List (Nat × Int)} (hj : j + 1 ≤ K) (hg : goodN K l) (h : sumE K j l < -(2 * absA l)) : upP l < dnP l := by
  rw [absA_eq, sumE_eq] at h
  have h1 := dn_lo hj hg
  have h2 := up_hi hj hg
  have h3 : 2 ^ (upE K j l + 2 * upA l) < 2 ^ dnE K j l := Nat.pow_lt_pow_right (by omega) (by omega)
  exact pow_lt_of (Nat.lt_of_le_of_lt h2 (Nat.lt_of_lt_of_le h3 h1))
theorem sgn_up {l : List (Nat × Int)} (h : dnP l < upP l) : sgnP l = 1 := by unfold sgnP; rw [if_neg (by omega), if_pos h]
theorem sgn_dn {l : List (Nat × Int)} (h : upP l < dnP l) : sgnP l = -1 := by unfold sgnP; rw [if_neg (by omega), if_neg (by omega)]
theorem sgn_zero {l : List (Nat × Int)} (h : upP l = dnP l) : sgnP l = 0 := by unfold sgnP; rw [if_pos h]
theorem bern_lo (n : Nat) : ∀ k, n ^ k * (n + k) ≤ n * (n + 1) ^ k
  | 0 => by simp
  | k + 1 => by
    have ih := bern_lo n k
    rw [Nat.pow_succ, Nat.pow_succ]
    have h1 : n * (n + (k + 1)) ≤ (n + k) * (n + 1) := by
      have e1 : (n + k) * (n + 1) = n * n + n + (k * n + k) := by rw [Nat.add_mul, Nat.mul_add, Nat.mul_add, Nat.mul_one, Nat.mul_one]
      have e2 : n * (n + (k + 1)) = n * n + (k * n + n) := by rw [Nat.mul_add, Nat.mul_add, Nat.mul_one, Nat.mul_comm k n]
      rw [e1, e2]; omega
    calc n ^ k * n * (n + (k + 1)) = n ^ k * (n * (n + (k + 1))) := by rw [Nat.mul_assoc]
      _ ≤ n ^ k * ((n + k) * (n + 1)) := Nat.mul_le_mul_left _ h1
      _ = n ^ k * (n + k) * (n + 1) := by rw [Nat.mul_assoc]
      _ ≤ n * (n + 1) ^ k * (n + 1) := Nat.mul_le_mul_right _ ih
      _ = n * ((n + 1) ^ k * (n + 1)) := by rw [Nat.mul_assoc]
theorem bern_dbl {n : Nat} (hn : 0 < n) : 2 * n ^ n ≤ (n + 1) ^ n := by
  have h := bern_lo n n
  have e : n ^ n * (n + n) = n * (2 * n ^ n) := by rw [← Nat.two_mul]; ac_rfl
  rw [e] at h
  exact Nat.le_of_mul_le_mul_left h hn
theorem grow_pow {a b q t : Nat} (hb : 0 < b) (hab : b < a) (hq : b * t ≤ q) : 2 ^ t * b ^ q ≤ a ^ q := by
  obtain ⟨d, rfl⟩ : ∃ d, q = b * t + d := ⟨q - b * t, by omega⟩
  rw [Nat.pow_add, Nat.pow_add, ← Nat.mul_assoc]
  have h1 : 2 ^ t * b ^ (b * t) ≤ a ^ (b * t) := by
    rw [Nat.pow_mul, Nat.pow_mul, ← Nat.mul_pow]
    exact Nat.pow_le_pow_left (Nat.le_trans (bern_dbl hb) (Nat.pow_le_pow_left hab _)) _
  exact Nat.mul_le_mul h1 (Nat.pow_le_pow_left (Nat.le_of_lt hab) _)
theorem sum_found_up {K j : Nat} {l : List (Nat × Int)} (hj : j + 1 ≤ K) (hg : goodN K l) (h : dnP l < upP l) (hq : dnP l * (4 * (upA l + dnA l) + 1) ≤ 2 ^ j) : 2 * absA l < sumE K j l := by
  rw [absA_eq, sumE_eq]
  have h1 := grow_pow (dnP_pos hg) h hq
  have h2 := up_hi hj hg
  have h3 := dn_lo hj hg
  have h4 : 2 ^ (4 * (upA l + dnA l) + 1 + dnE K j l) ≤ 2 ^ (upE K j l + 2 * upA l) := by
    rw [Nat.pow_add]
    exact Nat.le_trans (Nat.mul_le_mul_left _ h3) (Nat.le_trans h1 h2)
  have := lt_of_two_pow h4
  omega
theorem sum_found_dn {K j : Nat} {l : List (Nat × Int)} (hj : j + 1 ≤ K) (hg : goodN K l) (h : upP l < dnP l) (hq : upP l * (4 * (upA l + dnA l) + 1) ≤ 2 ^ j) : sumE K j l < -(2 * absA l) := by
  rw [absA_eq, sumE_eq]
  have h1 := grow_pow (upP_pos hg) h hq
  have h2 := dn_hi hj hg
  have h3 := up_lo hj hg
  have h4 : 2 ^ (4 * (upA l + dnA l) + 1 + upE K j l) ≤ 2 ^ (dnE K j l + 2 * dnA l) := by
    rw [Nat.pow_add]
    exact Nat.le_trans (Nat.mul_le_mul_left _ h3) (Nat.le_trans h1 h2)
  have := lt_of_two_pow h4
  omega
end Go.Proofs.YtmbcejldifobnaaDoor

namespace Go.Proofs.YtmbcejldifobnaaDoor
def WB : Nat := 18446744073709551616
theorem WB_eq : WB = 18446744073709551616 := rfl
theorem WB_pos : 0 < WB := by decide
def wv : List Nat → Nat
  | [] => 0
  | x :: r => x + WB * wv r
def okW (l : List Nat) : Prop := ∀ x ∈ l, x < WB
theorem okW_cons {x : Nat} {l : List Nat} : okW (x :: l) ↔ x < WB ∧ okW l := by simp [okW]
theorem okW_append {a b : List Nat} : okW (a ++ b) ↔ okW a ∧ okW b := by
  simp only [okW, List.mem_append]
  constructor
  · intro h; exact ⟨fun x hx => h x (.inl hx), fun x hx => h x (.inr hx)⟩
  · rintro ⟨h1, h2⟩ x (hx | hx)
    · exact h1 x hx
    · exact h2 x hx
theorem okW_take {l : List Nat} (h : okW l) (k : Nat) : okW (l.take k) := fun x hx => h x (List.mem_of_mem_take hx)
theorem okW_drop {l : List Nat} (h : okW l) (k : Nat) : okW (l.drop k) := fun x hx => h x (List.mem_of_mem_drop hx)
theorem okW_zero (n : Nat) : okW (List.replicate n 0) := fun x hx => by rw [(List.mem_replicate.1 hx).2]; exact WB_pos
theorem wv_append (a b : List Nat) : wv (a ++ b) = wv a + WB ^ a.length * wv b := by
  induction a with
  | nil => simp [wv]
  | cons x r ih =>
    simp only [List.cons_append, wv, ih, List.length_cons, Nat.pow_succ]
    rw [Nat.mul_add, ← Nat.mul_assoc, Nat.mul_comm WB (WB ^ r.length), Nat.add_assoc]
theorem wv_zero (n : Nat) : wv (List.replicate n 0) = 0 := by
  induction n with
  | zero => rfl
  | succ n ih => rw [List.replicate_succ, wv, ih, Nat.mul_zero]
theorem wv_snoc (a : List Nat) (x : Nat) : wv (a ++ [x]) = wv a + WB ^ a.length * x := by
  rw [wv_append]; simp [wv]
theorem wpow_pos (n : Nat) : 0 < WB ^ n := Nat.pow_pos WB_pos
theorem wv_lt : ∀ {l : List Nat}, okW l → wv l < WB ^ l.length
  | [], _ => by simp [wv]
  | x :: r, h => by
    obtain ⟨hx, hr⟩ := okW_cons.1 h
    have ih := wv_lt hr
    have h1 : WB * (wv r + 1) ≤ WB * WB ^ r.length := Nat.mul_le_mul_left _ ih
    rw [Nat.mul_add, Nat.mul_one] at h1
    rw [wv, List.length_cons, Nat.pow_succ, Nat.mul_comm (WB ^ r.length)]
    omega
theorem wv_split (l : List Nat) (k : Nat) (hk : k ≤ l.length) : wv l = wv (l.take k) + WB ^ k * wv (l.drop k) := by
  conv => lhs; rw [← List.take_append_drop k l]
  rw [wv_append, List.length_take, Nat.min_eq_left hk]
theorem okW_set {L : List Nat} {j d : Nat} (h : okW L) (hd : d < WB) : okW (L.set j d) := by
  intro x hx
  rcases List.mem_or_eq_of_mem_set hx with h1 | h1
  · exact h x h1
  · rw [h1]; exact hd
theorem wv_take_succ {l : List Nat} {k x : Nat} (h : l[k]? = some x) : wv (l.take (k + 1)) = wv (l.take k) + WB ^ k * x := by
  have hk := (List.getElem?_eq_some_iff.1 h).1
  rw [List.take_add_one, h]
  show wv (l.take k ++ [x]) = _
  rw [wv_snoc, List.length_take, Nat.min_eq_left (by omega)]
/-- One word of a += n b: what is written, and what is carried on. -/
theorem mac_word {x n o c : Nat} (hx : x < WB) (hn : n < WB) (ho : o < WB) (hc : c < WB) : (x * n + o + c) / WB < WB := by
  have h1 : x * n ≤ (WB - 1) * (WB - 1) := Nat.mul_le_mul (by omega) (by omega)
  rw [WB_eq] at *
  have h2 : (18446744073709551616 - 1) * (18446744073709551616 - 1) = 340282366920938463426481119284349108225 := by decide
  rw [h2] at h1
  omega
/-- The loop of a += n b: k words are done. L: the row so far; A: as it was. -/
def MacRel (A b : List Nat) (n k c : Nat) (L : List Nat) : Prop :=
  L.length = A.length ∧ okW L ∧ c < WB ∧ L.drop k = A.drop k ∧ wv (L.take k) + WB ^ k * c = wv (A.take k) + n * wv (b.take k)
theorem MacRel.start (A b : List Nat) (n : Nat) (h : okW A) : MacRel A b n 0 0 A :=
  ⟨rfl, h, WB_pos, rfl, by simp [wv]⟩
theorem MacRel.step {A b : List Nat} {n k c : Nat} {L : List Nat} (h : MacRel A b n k c L) {x o : Nat} (hb : okW b) (hn : n < WB) (hx : b[k]? = some x) (ho : A[k]? = some o) :
    L[k]? = some o ∧ MacRel A b n (k + 1) ((x * n + o + c) / WB) (L.set k ((x * n + o + c) % WB)) := by
  obtain ⟨h1, h2, h3, h4, h5⟩ := h
  have hk : k < A.length := (List.getElem?_eq_some_iff.1 ho).1
  have hLk : L[k]? = some o := by
    have e : (L.drop k)[0]? = (A.drop k)[0]? := by rw [h4]
    rw [List.getElem?_drop, List.getElem?_drop, Nat.add_zero] at e
    rw [e]; exact ho
  have hoW : o < WB := h2 o (List.mem_of_getElem? hLk)
  have hxW : x < WB := hb x (List.mem_of_getElem? hx)
  refine ⟨hLk, by rw [List.length_set]; exact h1, okW_set h2 (Nat.mod_lt _ WB_pos), mac_word hxW hn hoW h3, ?_, ?_⟩
  · rw [List.drop_set, if_pos (by omega)]
    have e : (L.drop k).drop 1 = (A.drop k).drop 1 := by rw [h4]
    rw [List.drop_drop, List.drop_drop] at e
    exact e
  · have e1 : (L.set k ((x * n + o + c) % WB)).take (k + 1) = L.take k ++ [(x * n + o + c) % WB] := by
      rw [List.take_add_one, List.getElem?_set_self (by omega), List.take_set, List.set_eq_of_length_le (by rw [List.length_take]; omega)]
      rfl
    have hl : (L.take k).length = k := by rw [List.length_take]; omega
    rw [e1, wv_snoc, hl, wv_take_succ hx, wv_take_succ ho, Nat.pow_succ]
    have e2 := Nat.mod_add_div (x * n + o + c) WB
    generalize (x * n + o + c) % WB = r at *
    generalize (x * n + o + c) / WB = q at *
    have e3 : WB ^ k * (r + WB * q) = WB ^ k * (x * n + o + c) := by rw [e2]
    rw [Nat.mul_add, Nat.mul_add, Nat.mul_add, ← Nat.mul_assoc (WB ^ k) WB] at e3
    have e4 : n * (wv (b.take k) + WB ^ k * x) = n * wv (b.take k) + WB ^ k * (x * n) := by rw [Nat.mul_add]; congr 1; ac_rfl
    rw [e4]
    omega
/-- What a += n b leaves. -/
theorem MacRel.done {A b : List Nat} {n c : Nat} {L : List Nat} (h : MacRel A b n A.length c L) (hl : b.length = A.length) : wv L + WB ^ A.length * c = wv A + n * wv b := by
  obtain ⟨h1, -, -, -, h5⟩ := h
  rw [List.take_of_length_le (by omega), List.take_of_length_le (by omega), List.take_of_length_le (by omega)] at h5
  exact h5
/-- The square: after k words of x the room holds (x's lowest k words) x. R: the room, of twice as many words as x. -/
def SqRel (x : List Nat) (k : Nat) (R : List Nat) : Prop :=
  R.length = 2 * x.length ∧ okW R ∧ wv (R.take (k + x.length)) = wv (x.take k) * wv x ∧ (∀ j, k + x.length ≤ j → j < 2 * x.length → R[j]? = some 0)
theorem SqRel.start (x : List Nat) : SqRel x 0 (List.replicate (2 * x.length) 0) := by
  refine ⟨by simp, okW_zero _, ?_, fun j _ hj => by rw [List.getElem?_replicate, if_pos hj]⟩
  rw [List.take_replicate, wv_zero, List.take_zero]
  show 0 = wv [] * _
  rw [show wv [] = 0 from rfl, Nat.zero_mul]
theorem SqRel.step {x R M : List Nat} {k c w : Nat} (h : SqRel x k R) (hw : x[k]? = some w) (hm : MacRel ((R.drop k).take x.length) x w x.length c M) :
    SqRel x (k + 1) ((R.take k ++ M ++ R.drop (k + x.length)).set (k + x.length) c) := by
  obtain ⟨h1, h2, h3, h4⟩ := h
  have hk : k < x.length := (List.getElem?_eq_some_iff.1 hw).1
  have hal : ((R.drop k).take x.length).length = x.length := by rw [List.length_take, List.length_drop]; omega
  have hd := MacRel.done (A := (R.drop k).take x.length) (by rw [hal]; exact hm) (by rw [hal])
  obtain ⟨m1, m2, m3, -, -⟩ := hm
  rw [hal] at m1 hd
  have htl : (R.take k).length = k := by rw [List.length_take]; omega
  have hlen : (R.take k ++ M ++ R.drop (k + x.length)).length = 2 * x.length := by
    rw [List.length_append, List.length_append, htl, m1, List.length_drop]; omega
  have hpl : (R.take k ++ M).length = k + x.length := by rw [List.length_append, htl, m1]
  have hpre : ∀ j, j < k + x.length + 1 → k + x.length + 1 ≤ 2 * x.length := fun _ _ => by omega
  refine ⟨by rw [List.length_set]; exact hlen, okW_set (okW_append.2 ⟨okW_append.2 ⟨okW_take h2 k, m2⟩, okW_drop h2 _⟩) m3, ?_, ?_⟩
  · have e1 : ((R.take k ++ M ++ R.drop (k + x.length)).set (k + x.length) c).take (k + 1 + x.length) = R.take k ++ M ++ [c] := by
      have e0 : k + 1 + x.length = k + x.length + 1 := by omega
      rw [e0, List.take_add_one, List.getElem?_set_self (by rw [hlen]; omega), List.take_set, List.set_eq_of_length_le (by rw [List.length_take]; omega), List.take_append_of_le_length (by omega), List.take_of_length_le (by omega)]
      rfl
    have e2 : wv (R.take (k + x.length)) = wv (R.take k) + WB ^ k * wv ((R.drop k).take x.length) := by
      have h := wv_split (R.take (k + x.length)) k (by rw [List.length_take]; omega)
      rw [List.take_take, Nat.min_eq_left (by omega), List.drop_take, Nat.add_sub_cancel_left] at h
      exact h
    rw [e1, wv_snoc, hpl, wv_append, htl, wv_take_succ hw, Nat.add_mul, ← h3, e2]
    have e3 : WB ^ k * (wv M + WB ^ x.length * c) = WB ^ k * (wv ((R.drop k).take x.length) + w * wv x) := by rw [hd]
    rw [Nat.mul_add, Nat.mul_add, ← Nat.mul_assoc (WB ^ k) (WB ^ x.length), ← Nat.pow_add] at e3
    have e4 : WB ^ k * w * wv x = WB ^ k * (w * wv x) := Nat.mul_assoc _ _ _
    rw [e4]
    omega
  · intro j hj hj2
    rw [List.getElem?_set_ne (by omega), List.getElem?_append_right (by omega), hpl, List.getElem?_drop]
    rw [show k + x.length + (j - (k + x.length)) = j by omega]
    exact h4 j (by omega) hj2
theorem SqRel.done {x R : List Nat} (h : SqRel x x.length R) : wv R = wv x * wv x := by
  obtain ⟨h1, -, h3, -⟩ := h
  rw [List.take_of_length_le (by omega), List.take_of_length_le (by omega)] at h3
  exact h3
/-- The greatest word's highest bit. -/
theorem top_bit {R : List Nat} {n t : Nat} (hl : R.length = n + 1) (ho : okW R) (ht : R[n]? = some t) : 9223372036854775808 ≤ t ↔ 9223372036854775808 * WB ^ n ≤ wv R := by
  have h := wv_split R n (by omega)
  have hd : R.drop n = [t] := by
    have h1 := (List.getElem?_eq_some_iff.1 ht).1
    rw [List.drop_eq_getElem_cons h1, List.drop_of_length_le (by omega)]
    rw [(List.getElem?_eq_some_iff.1 ht).2]
  rw [hd] at h
  have e : wv [t] = t := by simp [wv]
  rw [e] at h
  have hlt := wv_lt (okW_take ho n)
  rw [List.length_take, Nat.min_eq_left (by omega)] at hlt
  have hp := wpow_pos n
  generalize wv (R.take n) = a at *
  generalize WB ^ n = P at *
  constructor
  · intro h1
    have h2 : 9223372036854775808 * P ≤ t * P := Nat.mul_le_mul_right _ h1
    rw [h, Nat.mul_comm P t]; omega
  · intro h1
    rcases Nat.lt_or_ge t 9223372036854775808 with h2 | h2
    · exfalso
      have h3 : (t + 1) * P ≤ 9223372036854775808 * P := Nat.mul_le_mul_right _ h2
      rw [Nat.add_mul, Nat.one_mul] at h3
      rw [h, Nat.mul_comm P t] at h1
      omega
    · exact h2
def pw (R : List Nat) (i : Nat) : Nat := R[i]?.getD 0
theorem pw_at {R : List Nat} {i r : Nat} (h : R[i]? = some r) : pw R i = r := by unfold pw; rw [h]; rfl
/-- The loop of the shift: k words are done. -/
def ShRel (R : List Nat) (n k : Nat) (X : List Nat) : Prop :=
  X.length = n ∧ okW X ∧ wv (X.take k) + WB ^ k * (pw R (n + k - 1) / 9223372036854775808) = 2 * wv ((R.drop n).take k) + pw R (n - 1) / 9223372036854775808
theorem ShRel.start {R X : List Nat} {n : Nat} (h : X.length = n) (ho : okW X) : ShRel R n 0 X := by
  refine ⟨h, ho, ?_⟩
  rw [List.take_zero, List.take_zero, Nat.pow_zero, Nat.one_mul, show wv [] = 0 from rfl, Nat.add_zero]
  try omega
theorem shl_word {r p : Nat} (_ : r < WB) (hp : p < WB) : 2 * r % WB + p / 9223372036854775808 < WB ∧ WB * (r / 9223372036854775808) + 2 * r % WB = 2 * r := by
  rw [WB_eq] at *; omega
theorem ShRel.step {R X : List Nat} {n k r p : Nat} (h : ShRel R n k X) (hk : k < n) (hR : okW R) (h1 : R[n + k]? = some r) (h2 : R[n + k - 1]? = some p) :
    ShRel R n (k + 1) (X.set k (2 * r % WB + p / 9223372036854775808)) := by
  obtain ⟨a1, a2, a3⟩ := h
  obtain ⟨b1, b2⟩ := shl_word (hR r (List.mem_of_getElem? h1)) (hR p (List.mem_of_getElem? h2))
  refine ⟨by rw [List.length_set]; exact a1, okW_set a2 b1, ?_⟩
  have e1 : (X.set k (2 * r % WB + p / 9223372036854775808)).take (k + 1) = X.take k ++ [2 * r % WB + p / 9223372036854775808] := by
    rw [List.take_add_one, List.getElem?_set_self (by omega), List.take_set, List.set_eq_of_length_le (by rw [List.length_take]; omega)]
    rfl
  have hl : (X.take k).length = k := by rw [List.length_take]; omega
  have h3 : (R.drop n)[k]? = some r := by rw [List.getElem?_drop]; exact h1
  rw [e1, wv_snoc, hl, wv_take_succ h3, show n + (k + 1) - 1 = n + k by omega, pw_at h1, Nat.pow_succ]
  rw [pw_at h2] at a3
  have e2 : WB ^ k * (WB * (r / 9223372036854775808) + 2 * r % WB) = WB ^ k * (2 * r) := by rw [b2]
  rw [Nat.mul_add, ← Nat.mul_assoc (WB ^ k) WB] at e2
  rw [Nat.mul_add (WB ^ k) (2 * r % WB)]
  have e3 : WB ^ k * (2 * r) = 2 * (WB ^ k * r) := by ac_rfl
  omega
theorem WB_pow (n : Nat) (hn : 1 ≤ n) : WB ^ n = 2 * 2 ^ (64 * n - 1) := by
  rw [show WB = 2 ^ 64 from rfl, ← Nat.pow_mul, ← Nat.pow_succ']
  congr 1; omega
theorem half_WB (n : Nat) (hn : 1 ≤ n) : 9223372036854775808 * WB ^ (2 * n - 1) = 2 * 2 ^ (64 * n - 1) * 2 ^ (64 * n - 1) := by
  rw [show (9223372036854775808 : Nat) = 2 ^ 63 from rfl, show WB = 2 ^ 64 from rfl, ← Nat.pow_mul, ← Nat.pow_succ', ← Nat.pow_add, ← Nat.pow_add]
  congr 1; omega
/-- The halved square. -/
theorem sq_big {x R : List Nat} {n t : Nat} (hn : 1 ≤ n) (hx : x.length = n) (hl : R.length = 2 * n) (ho : okW R) (hv : wv R = wv x * wv x) (ht : R[2 * n - 1]? = some t) :
    (9223372036854775808 ≤ t ↔ sqB (2 ^ (64 * n - 1)) (wv x) = true) ∧ (9223372036854775808 ≤ t → wv (R.drop n) = sqM (2 ^ (64 * n - 1)) (wv x)) := by
  have h := top_bit (n := 2 * n - 1) (by omega) ho ht
  rw [half_WB n hn, hv] at h
  have hb : 9223372036854775808 ≤ t ↔ sqB (2 ^ (64 * n - 1)) (wv x) = true := by
    rw [h]; unfold sqB; simp
  refine ⟨hb, fun h1 => ?_⟩
  unfold sqM
  rw [if_pos (hb.1 h1), ← WB_pow n hn, ← hv, wv_split R n (by omega)]
  have hlt := wv_lt (okW_take ho n)
  rw [List.length_take, Nat.min_eq_left (by omega)] at hlt
  rw [Nat.add_mul_div_left _ _ (wpow_pos n), Nat.div_eq_of_lt hlt, Nat.zero_add]
/-- The square that is not halved. -/
theorem sq_small {x R X : List Nat} {n t : Nat} (hn : 1 ≤ n) (hx : x.length = n) (hl : R.length = 2 * n) (ho : okW R) (hv : wv R = wv x * wv x) (ht : R[2 * n - 1]? = some t) (h1 : t < 9223372036854775808) (h : ShRel R n n X) :
    wv X = sqM (2 ^ (64 * n - 1)) (wv x) := by
  obtain ⟨a1, a2, a3⟩ := h
  have hb := (sq_big hn hx hl ho hv ht).1
  have hb2 : sqB (2 ^ (64 * n - 1)) (wv x) = false := by
    cases hs : sqB (2 ^ (64 * n - 1)) (wv x)
    · rfl
    · have := hb.2 hs; omega
  unfold sqM
  rw [hb2]
  simp only [Bool.false_eq_true, if_false]
  rw [show n + n - 1 = 2 * n - 1 by omega, pw_at ht, Nat.div_eq_of_lt h1, Nat.mul_zero, Nat.add_zero, List.take_of_length_le (by omega), List.take_of_length_le (by rw [List.length_drop]; omega)] at a3
  obtain ⟨p, hp⟩ : ∃ p, R[n - 1]? = some p := ⟨R[n - 1]'(by omega), List.getElem?_eq_getElem (by omega)⟩
  rw [pw_at hp] at a3
  have hpW : p < WB := ho p (List.mem_of_getElem? hp)
  have hT : (R.take n).length = n := by rw [List.length_take]; omega
  have hpt : (R.take n)[n - 1]? = some p := by rw [List.getElem?_take, if_pos (by omega)]; exact hp
  have htb := top_bit (R := R.take n) (n := n - 1) (by omega) (okW_take ho n) hpt
  have hlt := wv_lt (okW_take ho n)
  rw [hT] at hlt
  have hsp := wv_split R n (by omega)
  rw [← hv, hsp, a3]
  have hWn := WB_pow n hn
  have hF : 0 < 2 ^ (64 * n - 1) := Nat.pow_pos (by omega)
  have e63 : 9223372036854775808 * WB ^ (n - 1) = 2 ^ (64 * n - 1) := by
    rw [show (9223372036854775808 : Nat) = 2 ^ 63 from rfl, show WB = 2 ^ 64 from rfl, ← Nat.pow_mul, ← Nat.pow_add]
    congr 1; omega
  rw [e63] at htb
  rw [hWn] at hlt ⊢
  generalize 2 ^ (64 * n - 1) = F at *
  generalize wv (R.take n) = a at *
  generalize wv (R.drop n) = d at *
  have e1 : a + 2 * F * d = a + F * (2 * d) := by rw [Nat.mul_comm 2 F, Nat.mul_assoc]
  rw [e1, Nat.add_mul_div_left _ _ hF, Nat.add_comm]
  congr 1
  rw [WB_eq] at hpW
  rcases Nat.lt_or_ge p 9223372036854775808 with h2 | h2
  · have h3 : a < F := by
      rcases Nat.lt_or_ge a F with h | h
      · exact h
      · have := htb.2 h; omega
    rw [Nat.div_eq_of_lt h3, Nat.div_eq_of_lt h2]
  · have h3 := htb.1 h2
    have e2 : a / F = 1 := by
      have e3 : a = F * 1 + (a - F) := by omega
      rw [e3, Nat.mul_add_div hF, Nat.div_eq_of_lt (by omega)]
    rw [e2]; omega
end Go.Proofs.YtmbcejldifobnaaDoor

namespace Go.Proofs.YtmbcejldifobnaaDoor
open Go.RowKit
def u64w (x : Nat) : Value := .int .u64 (x : Int)
/-- v holds these words. -/
def Wrd (w : World) (B : Nat) (v : Value) (l : List Nat) : Prop := SlC w B v (l.map u64w) ∧ okW l
theorem Wrd.below {w w' : World} {B : Nat} {v : Value} {l : List Nat} (h : Wrd w B v l) (hb : Below B w w') : Wrd w' B v l := ⟨h.1.below hb, h.2⟩
theorem Wrd.form {w : World} {B : Nat} {v : Value} {l : List Nat} (h : Wrd w B v l) : ∃ A cap, v = .slice A l.length cap ∧ l.length ≤ cap := by
  obtain ⟨A, cap, e, hc, _⟩ := h.1
  rw [List.length_map] at e hc
  exact ⟨A, cap, e, hc⟩
theorem wlt {l : List Nat} (h : okW l) {k x : Nat} (hx : l[k]? = some x) : x < 18446744073709551616 := h x (List.mem_of_getElem? hx)
/-- Block g holds just these words. -/
def RowW (w : World) (g : Nat) (L : List Nat) : Prop := w.heap[g]? = some (.cells (L.map u64w).toArray 180 (0, 0))
theorem RowW.cell {w : World} {g : Nat} {L : List Nat} (h : RowW w g L) {i x : Nat} (hx : L[i]? = some x) : w.cell? ⟨g, i, none⟩ = some (.int .u64 (x : Int)) := by
  rw [Go.Joins.cell_of_block h i]; simp [hx, u64w]
theorem RowW.frozen {w : World} {g : Nat} {L : List Nat} (h : RowW w g L) (i : Nat) : w.frozen? ⟨g, i, none⟩ = false := by
  have e : w.heap[g]? = some (.cells (L.map u64w).toArray 180 (0, 0)) := h
  simp [World.frozen?, e]
theorem RowW.lt {w : World} {g : Nat} {L : List Nat} (h : RowW w g L) : g < w.heap.size := (Array.getElem?_eq_some_iff.1 h).1
theorem RowW.set {w : World} {g : Nat} {L : List Nat} (h : RowW w g L) (i x : Nat) : RowW (w.setCell ⟨g, i, none⟩ (.int .u64 (x : Int))) g (L.set i x) := by
  have e : w.heap[g]? = some (.cells (L.map u64w).toArray 180 (0, 0)) := h
  show (w.setCell _ _).heap[g]? = _
  rw [List.map_set]
  simp [World.setCell, Array.getElem?_modify, e, u64w]
theorem RowW.below {w w' : World} {B g : Nat} {L : List Nat} (h : RowW w g L) (hb : Below B w w') (hg : g < B) : RowW w' g L := (hb.block g hg).trans h
theorem RowW.up {w w' : World} {g : Nat} {L : List Nat} (h : RowW w g L) (hb : Below w.heap.size w w') : RowW w' g L := h.below hb h.lt
theorem RowW.drewN {w : World} {g : Nat} {L : List Nat} (h : RowW w g L) (n : Nat) : RowW (w.drewN n) g L := h
theorem RowW.grown {w w' : World} {g k : Nat} {L : List Nat} (h : RowW w g L) (hg : w.grownBy w' (some k)) (hne : g ≠ k) : RowW w' g L :=
  (hg.block g h.lt (fun e => hne (by cases e; rfl))).trans h
theorem RowW.other {W : World} {g k i : Nat} {L : List Nat} (h : RowW W g L) (u : Value) (hne : g ≠ k) : RowW (W.setCell ⟨k, i, none⟩ u) g L := by
  show (W.setCell _ _).heap[g]? = _
  have e : W.heap[g]? = some (.cells (L.map u64w).toArray 180 (0, 0)) := h
  rw [← e]
  simp [World.setCell, Array.getElem?_modify, hne.symm]
/-- A part of the row. -/
theorem RowW.part {w : World} {g : Nat} {L : List Nat} (h : RowW w g L) (ho : okW L) (o n cap : Nat) (hn : o + n ≤ L.length) (hc : n ≤ cap) : Wrd w w.heap.size (.slice (some ⟨g, o, none⟩) n cap) ((L.drop o).take n) := by
  have hl : ((L.drop o).take n).length = n := by rw [List.length_take, List.length_drop]; omega
  refine ⟨⟨_, cap, by rw [List.length_map, hl], by rw [List.length_map, hl]; exact hc, fun _ => ⟨g, o, rfl, h.lt, ?_⟩⟩, okW_take (okW_drop ho o) n⟩
  intro k x hx
  rw [List.getElem?_map] at hx
  obtain ⟨y, hy, rfl⟩ := Option.map_eq_some_iff.1 hx
  rw [List.getElem?_take] at hy
  split at hy
  · rw [List.getElem?_drop] at hy
    exact h.cell hy
  · cases hy
theorem Tryd.infoW : (Tryd.prog.info? 180).map (fun i => (i.zero, i.size, i.bytes)) = some (some (.int .u64 0), 1, 8) := by kernel_rfl
theorem Tryd.sizeW : (Tryd.prog.info? 180).map (·.size) = some 1 := by kernel_rfl
def zerosW (n : Nat) : List Value := (List.replicate n 0).map u64w
theorem mkW (n : Nat) (hn : n ≤ 35184372088832) (w : World) :
    (Instr.makeSlice 181 (.int .i64 (n : Int)) (.int .i64 (n : Int))).run Tryd.prog w = .ok (.slice (some ⟨w.heap.size, 0, none⟩) n n) (w.alloc (.cells (zerosW n).toArray 180)) := by
  obtain ⟨i0, hi, hz0, hz1, hz2⟩ := info_parts Tryd.infoW
  have h := run_make (P := Tryd.prog) w 181 180 i0 _ Tryd.underlying181 hi hz0 .i64 .i64 n n (by omega) (by omega) (by rw [hz2]; omega) (by omega)
  simp only [Int.toNat_natCast] at h
  rw [hz1, Nat.mul_one] at h
  have e : madeCells (Value.int .u64 0).cells n = (zerosW n).toArray := by
    apply Array.toList_inj.1
    rw [show (Value.int .u64 0).cells = #[Value.int .u64 0] from rfl, toList_madeCells_one]
    simp [zerosW, u64w]
  rw [e] at h
  exact h
theorem RowW.new (w : World) (n : Nat) : RowW (w.alloc (.cells (zerosW n).toArray 180)) w.heap.size (List.replicate n 0) := heap_alloc_new w _
end Go.Proofs.YtmbcejldifobnaaDoor

namespace Go.Proofs
open Go.Shelf
def Tryd.lays129_ren : Go.Shelf.Ren := ⟨fun | 129 => 144 | n => n, fun | 53 => 180 | 3 => 3 | 4 => 4 | 46 => 204 | 5 => 5 | 9 => 9 | n => n, fun | n => n⟩
theorem Tryd.lays129 : Go.Proofs.Lays.n129 Tryd.prog Tryd.lays129_ren := {
  mixed := by kernel_rfl
  f129 := Tryd.func144.trans (congrArg some (by kernel_rfl))
  t3 := Tryd.underlying3
  a3 := Tryd.isAgg3
  z3 := Tryd.sizeOf3
  v3 := Tryd.zeroValue3
  t4 := Tryd.underlying4
  a4 := Tryd.isAgg4
  z4 := Tryd.sizeOf4
  v4 := Tryd.zeroValue4
  t5 := Tryd.underlying5
  a5 := Tryd.isAgg5
  z5 := Tryd.sizeOf5
  v5 := Tryd.zeroValue5
  t9 := Tryd.underlying9
  a9 := Tryd.isAgg9
  z9 := Tryd.sizeOf9
  v9 := Tryd.zeroValue9
  t46 := Tryd.underlying204
  a46 := Tryd.isAgg204
  z46 := Tryd.sizeOf204
  v46 := Tryd.zeroValue204
  t53 := Tryd.underlying180
  a53 := Tryd.isAgg180
  z53 := Tryd.sizeOf180
  v53 := Tryd.zeroValue180 }
/-- bits.Len64: "Len64 returns the minimum number of bits required to represent x; the result is 0 for x == 0.": IT RETURNS 'Lib.bitLen x'; the world is as it was. ('h0', 'h1': x is a uint64.) (LAID: no walk: one application.) -/
theorem Tryd.bits_Len64 (x : Int) (w : World) (h0 : 0 ≤ x) (h1 : x ≤ 18446744073709551615) :
    Calls Tryd.prog 144 #[.int .u64 x] w fun e w' => e = .returned (.int .i64 (Lib.bitLen x.toNat)) ∧ w' = w := Any.bits_Len64 Tryd.lays129 x w h0 h1
def Tryd.lays264_ren : Go.Shelf.Ren := ⟨fun | 264 => 193 | n => n, fun | 53 => 180 | 46 => 204 | n => n, fun | n => n⟩
theorem Tryd.lays264 : Go.Proofs.Lays.n264 Tryd.prog Tryd.lays264_ren := {
  mixed := by kernel_rfl
  f264 := Tryd.func193.trans (congrArg some (by kernel_rfl))
  t46 := Tryd.underlying204
  a46 := Tryd.isAgg204
  z46 := Tryd.sizeOf204
  v46 := Tryd.zeroValue204
  t53 := Tryd.underlying180
  a53 := Tryd.isAgg180
  z53 := Tryd.sizeOf180
  v53 := Tryd.zeroValue180 }
open Go.RowKit Go.Lib in
theorem Tryd.bits_Mul64 (x y : Nat) (hx : x < 18446744073709551616) (hy : y < 18446744073709551616) (w : World) :
    Calls Tryd.prog 193 #[.int .u64 x, .int .u64 y] w fun e w' => e = .returned (.tuple #[.int .u64 ((x * y / 18446744073709551616 : Nat) : Int), .int .u64 ((x * y % 18446744073709551616 : Nat) : Int)]) ∧ w' = w := Any.bits_Mul64 Tryd.lays264 x y hx hy w
end Go.Proofs

namespace Go.Proofs.YtmbcejldifobnaaDoor
open Go.RowKit
/-- math/bits.Add64 without a carry coming in. -/
theorem add64_run (x y : Nat) (w : World) : (callFunc 194 #[.int .u64 (x : Int), .int .u64 (y : Int), .int .u64 0]).run Tryd.prog w =
    .ok (.value (.tuple #[.int .u64 (((x + y) % 18446744073709551616 : Nat) : Int), .int .u64 (((x + y) / 18446744073709551616 : Nat) : Int)])) w := by
  rw [run_callFunc_extern Tryd.func194 (by kernel_rfl) (by kernel_rfl) (by kernel_rfl) (e := add64Entry) (by kernel_rfl), run_add64 (x : Int) (y : Int) 0 (by omega) (by omega) (by omega) (by omega)]
  simp only [Result.andThen]
  congr 5 <;> omega
theorem mac_parts {x n o c hi lo l2 m1 d m2 : Nat} (h1 : hi = x * n / 18446744073709551616) (h2 : lo = x * n % 18446744073709551616) (h3 : l2 = (lo + o) % 18446744073709551616) (h4 : m1 = (lo + o) / 18446744073709551616) (h5 : d = (l2 + c) % 18446744073709551616) (h6 : m2 = (l2 + c) / 18446744073709551616) :
    d = (x * n + o + c) % WB ∧ hi + m1 + m2 = (x * n + o + c) / WB := by
  rw [WB_eq]; omega
theorem mid_at {R L : List Nat} {i n k : Nat} (hL : L.length = n) (hin : i + n ≤ R.length) (hk : k < n) : (R.take i ++ L ++ R.drop (i + n))[i + k]? = L[k]? := by
  have h1 : (R.take i).length = i := by rw [List.length_take]; omega
  rw [List.getElem?_append_left (by rw [List.length_append, h1]; omega), List.getElem?_append_right (by omega), h1]
  congr 1; omega
theorem mid_set {R L : List Nat} {i n k d : Nat} (hL : L.length = n) (hin : i + n ≤ R.length) (hk : k < n) : (R.take i ++ L ++ R.drop (i + n)).set (i + k) d = R.take i ++ L.set k d ++ R.drop (i + n) := by
  have h1 : (R.take i).length = i := by rw [List.length_take]; omega
  rw [List.set_append, if_pos (by rw [List.length_append, h1]; omega), List.set_append, if_neg (by omega), h1]
  congr 3; omega
theorem part_w (L : List Nat) (o n k : Nat) (hk : k < n) : ((L.drop o).take n)[k]? = L[o + k]? := by
  rw [List.getElem?_take, if_pos hk, List.getElem?_drop]
def AtW (w : World) (gr i n : Nat) (R X : List Nat) (m : Nat) (cv iv : Value) (wr : World) : Prop :=
  ∃ (k c : Nat) (L : List Nat), k ≤ n ∧ iv = .int .i64 (k : Int) ∧ cv = .int .u64 (c : Int) ∧ MacRel ((R.drop i).take n) X m k c L ∧ RowW wr gr (R.take i ++ L ++ R.drop (i + n)) ∧ w.grownBy wr (some gr) ∧ wr.heap.size = w.heap.size

set_option maxRecDepth 100000 in
set_option maxHeartbeats 2000000 in
theorem addTimesW (gr gx i n ca : Nat) (R X : List Nat) (m : Nat) (w : World) (hr : RowW w gr R) (hR : okW R) (hx : RowW w gx X) (hX : okW X) (hne : gx ≠ gr) (hl : X.length = n) (hin : i + n ≤ R.length) (hm : m < WB) (hn : n ≤ 100000000000000) (hi : i ≤ 100000000000000) :
    Calls Tryd.prog 180 #[.slice (some ⟨gr, i, none⟩) n ca, .slice (some ⟨gx, 0, none⟩) n n, .int .u64 (m : Int)] w fun e w' =>
      ∃ (c : Nat) (M : List Nat), e = .returned (.int .u64 (c : Int)) ∧ MacRel ((R.drop i).take n) X m n c M ∧ RowW w' gr (R.take i ++ M ++ R.drop (i + n)) ∧ w.grownBy w' (some gr) ∧ w'.heap.size = w.heap.size := by
  have hst : MacRel ((R.drop i).take n) X m 0 0 ((R.drop i).take n) := MacRel.start _ _ _ (okW_take (okW_drop hR i) n)
  have hwhole : R.take i ++ (R.drop i).take n ++ R.drop (i + n) = R := by
    rw [List.append_assoc, ← List.drop_drop, List.take_append_drop, List.take_append_drop]
  have hst2 : RowW w gr (R.take i ++ (R.drop i).take n ++ R.drop (i + n)) := by rw [hwhole]; exact hr
  have HST := Lib.hid hst
  have HST2 := Lib.hid hst2
  have HX := Lib.hid hx
  have HXO := Lib.hid hX
  have HRO := Lib.hid hR
  have HM := Lib.hid hm
  have HL := Lib.hid hl
  have HNE := Lib.hid hne
  clear hst hst2 hwhole hr hR hx hX hne hl hm
  go_enter Tryd.func180, Tryd.ntmps180
  go_wp2_with fail
  go_loopw [7, 15] (fun cv iv wr => AtW w gr i n R X m cv iv wr) (fun _ iv _ => n - (intOf iv).toNat)
  case atStart => exact ⟨0, 0, _, Nat.zero_le _, rfl, rfl, HST.out, HST2.out, grownBy_refl _ _, rfl⟩
  case round =>
    obtain ⟨k, c, L, hk, rfl, rfl, hmac, hrow, hgr, hz⟩ := hrel
    have hLl : L.length = n := by rw [hmac.1, List.length_take, List.length_drop]; omega
    by_cases hlt : k < n
    · obtain ⟨x, hxk⟩ : ∃ x, X[k]? = some x := ⟨X[k]'(by rw [HL.out]; exact hlt), List.getElem?_eq_getElem _⟩
      obtain ⟨o, hok⟩ : ∃ o, R[i + k]? = some o := ⟨R[i + k]'(by omega), List.getElem?_eq_getElem _⟩
      obtain ⟨hLk, hnext⟩ := hmac.step HXO.out HM.out hxk (by rw [part_w R i n k hlt]; exact hok)
      have hxW : x < 18446744073709551616 := wlt HXO.out hxk
      have hoW : o < 18446744073709551616 := wlt HRO.out hok
      have hcW : c < 18446744073709551616 := hmac.2.2.1
      have hmW : m < 18446744073709551616 := HM.out
      have c0 := (HX.out.grown hgr HNE.out).cell hxk
      have d0 := hrow.cell (i := i + k) (x := o) (by rw [mid_at hLl hin hlt]; exact hLk)
      have f0 := hrow.frozen (i + k)
      obtain ⟨hi', hhi⟩ : ∃ v, v = x * m / 18446744073709551616 := ⟨_, rfl⟩
      obtain ⟨lo, hlo⟩ : ∃ v, v = x * m % 18446744073709551616 := ⟨_, rfl⟩
      obtain ⟨l2, hl2⟩ : ∃ v, v = (lo + o) % 18446744073709551616 := ⟨_, rfl⟩
      obtain ⟨m1, hm1⟩ : ∃ v, v = (lo + o) / 18446744073709551616 := ⟨_, rfl⟩
      obtain ⟨d, hd⟩ : ∃ v, v = (l2 + c) % 18446744073709551616 := ⟨_, rfl⟩
      obtain ⟨m2, hm2⟩ : ∃ v, v = (l2 + c) / 18446744073709551616 := ⟨_, rfl⟩
      have hmul := fun W => Tryd.bits_Mul64 x m hxW hmW W
      have ha1 := fun W => add64_run lo o W
      have ha2 := fun W => add64_run l2 c W
      rw [← hhi, ← hlo] at hmul
      rw [← hl2, ← hm1] at ha1
      rw [← hd, ← hm2] at ha2
      obtain ⟨e1, e2⟩ := mac_parts hhi hlo hl2 hm1 hd hm2
      have hq : hi' + m1 + m2 < 18446744073709551616 := by rw [e2]; exact mac_word hxW hmW hoW hcW
      rw [← e1, ← e2] at hnext
      have w1 : IntKind.u64.wrap ((hi' : Int) + (m1 : Int)) = ((hi' + m1 : Nat) : Int) := by rw [IntKind.wrap_u64]; omega
      have w2 : IntKind.u64.wrap (((hi' + m1 : Nat) : Int) + (m2 : Int)) = ((hi' + m1 + m2 : Nat) : Int) := by rw [IntKind.wrap_u64]; omega
      have HMUL := Lib.hid hmul
      have HNX := Lib.hid hnext
      have HROW := Lib.hid hrow
      have HGR := Lib.hid hgr
      have HZ := Lib.hid hz
      have hkI : (k : Int) < (n : Int) := by omega
      have hbnd : i + k ≤ 200000000000000 := by omega
      clear hmul hnext hrow hgr hz hmac hxk hok hLk hhi hlo hl2 hm1 hd hm2 e1 e2 hxW hoW hcW hmW
      go_wp2_with fail
      refine (HMUL.out _).mono ?_
      rintro e w2' ⟨he, rfl⟩
      subst he
      go_wp2_with fail
      refine ⟨⟨k + 1, hi' + m1 + m2, L.set k d, by omega, by go_num, by rw [Int.natCast_add, Int.natCast_add], HNX.out, ?_, grownBy_set HGR.out _ _, by simp [World.setCell]; exact HZ.out⟩, by simp [intOf]; omega⟩
      have h := HROW.out.set (i + k) d
      rw [mid_set hLl hin hlt] at h
      exact h
    · obtain rfl : k = n := by omega
      go_wp2_with fail
      go_ret
      exact ⟨c, L, rfl, hmac, hrow, hgr, hz⟩
end Go.Proofs.YtmbcejldifobnaaDoor
