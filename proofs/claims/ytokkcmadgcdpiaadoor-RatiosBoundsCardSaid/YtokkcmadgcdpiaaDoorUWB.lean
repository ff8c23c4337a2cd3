import Derived.Test.YtokkcmadgcdpiaaDoorUWA
import Derived.Test.YtokkcmadgcdpiaaDoorShelfC
import Derived.Deep.Cut
import Derived.StillTailTactics
import Derived.Laws.ShiftsVarLaws
import Derived.RangeFuncNested
import Derived.RangeFuncBound
import Derived.RangeFuncCalls
import Derived.RangeFuncLeaves
import Derived.Shelf.Abstract
import Derived.Shelf.RegionOpen
import Derived.OwnWalkIn
import Derived.TacticsInMore
import Derived.LoopNIn
import Derived.LoopIn
import Derived.Sort.QuietIn
import Derived.RegionIn
namespace Go.Proofs.YtokkcmadgcdpiaaDoor.Wd
open Go.RowKit

theorem bits_half {x : Nat} (h : x ≠ 0) : bitsOf x = 1 + bitsOf (x / 2) := by
  unfold bitsOf
  rw [if_neg h, Nat.log2_def]
  split
  · rw [if_neg (by omega)]; omega
  · rw [if_pos (by omega)]
theorem bitLen_eq : ∀ (f x : Nat), x < 2 ^ f → Lib.bitLenAux f x = bitsOf x
  | 0, x, h => by
    have : x = 0 := by simpa using h
    subst this; rfl
  | f + 1, x, h => by
    unfold Lib.bitLenAux
    by_cases h0 : x = 0
    · rw [if_pos h0, h0]; rfl
    · rw [if_neg h0, bitLen_eq f (x / 2) (by rw [Nat.pow_succ] at h; omega), bits_half h0]
theorem bits32 (x : Nat) (h : x < 4294967296) : Lib.bitLen x = bitsOf x := bitLen_eq 64 x (by have : (2 : Nat) ^ 64 = 18446744073709551616 := rfl; omega)

def cmpI (m n : Nat) : Int := if m < n then -1 else if m = n then 0 else 1
theorem cmpI_lt {m n : Nat} (h : m < n) : cmpI m n = -1 := by unfold cmpI; rw [if_pos h]
theorem cmpI_eq {m n : Nat} (h : m = n) : cmpI m n = 0 := by unfold cmpI; rw [if_neg (by omega), if_pos h]
theorem cmpI_gt {m n : Nat} (h : n < m) : cmpI m n = 1 := by unfold cmpI; rw [if_neg (by omega), if_neg (by omega)]

theorem sign_true (w : World) : Calls Tryd.prog 91 #[.bool true] w fun e w' => e = .returned (.int .i64 (-1)) ∧ w = w' := by
  go_enter Tryd.func91, Tryd.ntmps91
  go_wp2
  go_ret
  exact ⟨rfl, rfl⟩
theorem sign_false (w : World) : Calls Tryd.prog 91 #[.bool false] w fun e w' => e = .returned (.int .i64 1) ∧ w = w' := by
  go_enter Tryd.func91, Tryd.ntmps91
  go_wp2
  go_ret
  exact ⟨rfl, rfl⟩

theorem Num.form {w : World} {B : Nat} {v : Value} {n : Nat} (h : Num w B v n) : ∃ A cap, v = .slice A (dg n).length cap ∧ (dg n).length ≤ cap := Lim.form h
theorem Num.below {w w' : World} {B : Nat} {v : Value} {n : Nat} (h : Num w B v n) (hb : Below B w w') : Num w' B v n := Lim.below h hb
theorem Num.more {w : World} {B B' : Nat} {v : Value} {n : Nat} (h : Num w B v n) (hB : B ≤ B') : Num w B' v n := Lim.more h hB
theorem Num.up {w w' : World} {v : Value} {n : Nat} (h : Num w w.heap.size v n) (hb : Below w.heap.size w w') : Num w' w'.heap.size v n := Lim.up h hb

theorem isZero_any (v : Value) (n : Nat) (w : World) (B : Nat) (hv : Num w B v n) : Calls Tryd.prog 113 #[v] w fun e w' => e = .returned (.bool (decide (n = 0))) ∧ w = w' := by
  obtain ⟨A, cap, rfl, -⟩ := hv.form
  have hd : decide (n = 0) = (((dg n).length : Int) == 0) := by
    by_cases h : n = 0
    · subst h; rw [dg_zero]; rfl
    · have : (dg n).length ≠ 0 := fun e => h (dg_nil.1 (List.eq_nil_of_length_eq_zero e))
      rw [decide_eq_false h, beq_false_of_ne (by omega)]
  rw [hd]
  generalize (dg n).length = k
  go_enter Tryd.func113, Tryd.ntmps113
  go_wp2
  go_ret
  exact ⟨rfl, rfl⟩

theorem last_limb {n : Nat} (h : n ≠ 0) : ∃ l x, dg n = l ++ [x] ∧ okL l ∧ x ≠ 0 ∧ x < LB := by
  have hne : dg n ≠ [] := fun e => h (dg_nil.1 e)
  obtain ⟨h1, h2⟩ := right_dg n
  refine ⟨(dg n).dropLast, (dg n).getLast hne, (List.dropLast_concat_getLast hne).symm, fun x hx => h1 x (List.dropLast_subset _ hx), ?_, h1 _ (List.getLast_mem hne)⟩
  rw [List.getLast?_eq_some_getLast hne] at h2
  exact fun e => h2 (by rw [e])

set_option maxRecDepth 100000 in
set_option maxHeartbeats 1000000 in
theorem length_any (v : Value) (n : Nat) (w : World) (B : Nat) (hv : Num w B v n) (hlen : (dg n).length ≤ 100000000) : Calls Tryd.prog 103 #[v] w fun e w' => e = .returned (.int .i64 (bitsOf n)) ∧ w = w' := by
  have hz := isZero_any v n w B hv
  obtain ⟨A, cap, rfl, -⟩ := hv.form
  by_cases h0 : n = 0
  · subst h0
    have HZ := Lib.hid hz
    clear hz hv
    generalize (dg 0).length = k at *
    go_enter Tryd.func103, Tryd.ntmps103
    go_wp2_with (go_at_call 113; refine HZ.out.mono ?_; rintro e w' ⟨rfl, rfl⟩)
    go_ret
    exact ⟨rfl, rfl⟩
  · obtain ⟨l, x, hl, hlo, hx0, hxB⟩ := last_limb h0
    have hb := bits_top hlo hx0
    rw [← hl, val_dg] at hb
    have hx : (dg n)[l.length]? = some x := by rw [hl]; simp
    obtain ⟨g, o, rfl, hg, c0⟩ := Lim.cell hv hx
    have hk : (dg n).length = l.length + 1 := by rw [hl]; simp
    have hxB' : x < 4294967296 := hxB
    have hbx : bitsOf x ≤ 32 := bits_le_iff.2 (by have : (2:Nat)^32 = 4294967296 := rfl; omega)
    have hcall : ∀ w, Calls Tryd.prog 114 #[.int .u32 (x : Int)] w fun e w' => e = .returned (.int .i64 (bitsOf x)) ∧ w = w' := by
      intro w
      refine (Tryd.bits_Len32 x w (by omega) (by omega)).mono ?_
      rintro e w' ⟨rfl, rfl⟩
      exact ⟨by rw [Int.toNat_natCast, bits32 x hxB'], rfl⟩
    rw [decide_eq_false h0] at hz
    rw [hb]
    have HC := Lib.hid hcall
    have HZ := Lib.hid hz
    have HK := Lib.hid hk
    clear hb hx hcall hz hv hl hxB
    generalize bitsOf x = y at *
    generalize (dg n).length = k at *
    obtain rfl := HK.out
    generalize l.length = j at *
    go_enter Tryd.func103, Tryd.ntmps103
    go_wp2_with (first
      | (go_at_call 113; refine HZ.out.mono ?_; rintro e w' ⟨rfl, rfl⟩)
      | (go_at_call 114; refine (HC.out _).mono ?_; rintro e w' ⟨rfl, rfl⟩))
    go_ret
    exact ⟨by go_num, rfl⟩
end Go.Proofs.YtokkcmadgcdpiaaDoor.Wd
namespace Go.Proofs.YtokkcmadgcdpiaaDoor.Wd
open Go.RowKit

theorem quiet_w {f : FuncId} {args : Array Value} {v : Value} (c : ∀ W : World, Calls Tryd.prog f args W fun e w' => e = .returned v ∧ W = w') (w : World) (a n : Nat) :
    Calls Tryd.prog f args (w.drewN (a + n)) fun e w'' => e = .returned v ∧ ∃ m, w'' = w.drewN (a + m) :=
  (c _).mono fun _ _ h => ⟨h.1, n, h.2.symm⟩
theorem quiet_w1 {f : FuncId} {args : Array Value} {v : Value} (c : ∀ W : World, Calls Tryd.prog f args W fun e w' => e = .returned v ∧ W = w') (w : World) (n : Nat) :
    Calls Tryd.prog f args (w.drewN n) fun e w'' => e = .returned v ∧ ∃ m, w'' = w.drewN m :=
  (c _).mono fun _ _ h => ⟨h.1, n, h.2.symm⟩

theorem drawn_three (w : World) (a b c : Nat) : Drawn w (((w.drewN a).drewN b).drewN c) := ⟨_, by rw [drewN_drewN, drewN_drewN]⟩
def CpRel (w : World) (a b : List Nat) (i : Value) (wr : World) : Prop :=
  ∃ k : Nat, k ≤ a.length ∧ ((k = 0 ∧ i = .int .i64 (-1)) ∨ (∃ j : Nat, k = j + 1 ∧ i = .int .i64 (j : Int))) ∧ a.drop k = b.drop k ∧ Drawn w wr
def mI : Value → Nat
  | .int _ n => (n + 1).toNat
  | _ => 0

set_option maxRecDepth 100000 in
set_option maxHeartbeats 2000000 in
theorem compare_any (va vb : Value) (m n : Nat) (w : World) (ha : Num w w.heap.size va m) (hb : Num w w.heap.size vb n) (hla : (dg m).length ≤ 100000000) :
    Calls Tryd.prog 74 #[va, vb] w fun e w' => e = .returned (.int .i64 (cmpI m n)) ∧ Drawn w w' := by
  obtain ⟨A, capa, rfl, -⟩ := ha.form
  obtain ⟨B, capb, rfl, -⟩ := hb.form
  by_cases hl : (dg m).length = (dg n).length
  · have ho := ok_dg m
    have ho' := ok_dg n
    have hfin : ∀ k x y, (dg m)[k]? = some x → (dg n)[k]? = some y → (dg m).drop (k + 1) = (dg n).drop (k + 1) → (x < y → cmpI m n = -1) ∧ (y < x → cmpI m n = 1) := by
      intro k x y hx hy hd
      constructor
      · intro h
        have := val_lt_take ho ho' hx hy hl hd h
        rw [val_dg, val_dg] at this
        exact cmpI_lt this
      · intro h
        have := val_lt_take ho' ho hy hx hl.symm hd.symm h
        rw [val_dg, val_dg] at this
        exact cmpI_gt this
    have hend : (dg m).drop 0 = (dg n).drop 0 → cmpI m n = 0 := by
      intro h
      have := val_eq_drop h
      rw [val_dg, val_dg] at this
      exact cmpI_eq this
    have hA : Lim w w.heap.size (.slice A (dg m).length capa) (dg m) := ha
    have hB : Lim w w.heap.size (.slice B (dg n).length capb) (dg n) := hb
    have HF := Lib.hid hfin
    have HE := Lib.hid hend
    have q1 : (((dg m).length : Int) == ((dg n).length : Int)) = true := beq_iff_eq.2 (by omega)
    have q2 : (((dg m).length : Int) != ((dg n).length : Int)) = false := by simp [hl]
    clear ha hb hfin hend
    generalize cmpI m n = R at *
    generalize hda : dg m = a at *
    generalize hdb : dg n = b at *
    have HL := Lib.hid hl
    have hl1 : a.length ≤ b.length := by omega
    have hl2 : b.length ≤ a.length := by omega
    clear hda hdb hl
    have HA := Lib.hid hA
    have HB := Lib.hid hB
    clear hA hB
    go_enter Tryd.func74, Tryd.ntmps74
    go_wp2
    go_loopw [5] (fun i wr => CpRel w a b i wr) (fun i _ => mI i)
    case atStart =>
      refine ⟨a.length, Nat.le_refl _, ?_, ?_, Drawn.refl w⟩
      · rcases Nat.eq_zero_or_pos a.length with h | h
        · left; exact ⟨h, by rw [h]; rfl⟩
        · right; exact ⟨a.length - 1, by omega, by congr 1; omega⟩
      · rw [List.drop_eq_nil_of_le (Nat.le_refl _), List.drop_eq_nil_of_le hl2]
    case round =>
      obtain ⟨k, hk, hcase, hd, hdr⟩ := hrel
      have HD := Lib.hid hd
      clear hd
      rcases hcase with ⟨rfl, rfl⟩ | ⟨j, rfl, rfl⟩
      · go_wp2
        go_ret
        exact ⟨ret_int (HE.out HD.out).symm, hdr⟩
      · obtain ⟨x, hx⟩ : ∃ x, a[j]? = some x := ⟨a[j]'(by omega), List.getElem?_eq_getElem (by omega)⟩
        obtain ⟨y, hy⟩ : ∃ y, b[j]? = some y := ⟨b[j]'(by omega), List.getElem?_eq_getElem (by omega)⟩
        obtain ⟨g, o, rfl, hg, c0⟩ := HA.out.cell hx
        obtain ⟨g', o', rfl, hg', d0⟩ := HB.out.cell hy
        obtain ⟨q, rfl⟩ := hdr
        have hbb := below_drewN w q
        have c0 := (hbb.cell (p := ⟨g, o + j, none⟩) hg).trans c0
        have d0 := (hbb.cell (p := ⟨g', o' + j, none⟩) hg').trans d0
        have i1 : (0 : Int) ≤ (j : Int) := Int.natCast_nonneg _
        have i2 : (j : Int) < (a.length : Int) := by omega
        have i3 : (j : Int) < (b.length : Int) := by omega
        have HFF := Lib.hid (HF.out j x y hx hy HD.out)
        have HX := Lib.hid hx
        have HY := Lib.hid hy
        clear hx hy hbb
        by_cases hxy : x = y
        · subst hxy
          have HS := Lib.hid (drop_step HX.out HY.out HD.out)
          go_wp2
          go_quiet (fail)
          go_wp2
          go_roundw
          case rel =>
            refine ⟨j, by omega, ?_, HS.out, _, by first | rfl | exact drewN_drewN _ _ _⟩
            rcases Nat.eq_zero_or_pos j with h | h
            · left; exact ⟨h, by rw [h]; rfl⟩
            · right; exact ⟨j - 1, by omega, by congr 1; omega⟩
          case measure => simp [mI]
        · have p1 : ((x : Int) == (y : Int)) = false := beq_false_of_ne (by omega)
          have p2 : ((x : Int) != (y : Int)) = true := by simp; omega
          by_cases hlt : x < y
          · have hlt' : (x : Int) < (y : Int) := by omega
            have HR := Lib.hid (HFF.out.1 hlt)
            clear hxy
            go_wp2
            go_quiet (fail)
            go_wp2
            go_quiet ((go_at_call 91; first | exact quiet_w1 sign_true _ _ | exact quiet_w sign_true _ _ _))
            go_wp2
            go_ret
            exact ⟨ret_int HR.out.symm, drawn_three _ _ _ _⟩
          · have hlt' : ¬ (x : Int) < (y : Int) := by omega
            have HR := Lib.hid (HFF.out.2 (by omega))
            clear hxy
            go_wp2
            go_quiet (fail)
            go_wp2
            go_quiet ((go_at_call 91; first | exact quiet_w1 sign_false _ _ | exact quiet_w sign_false _ _ _))
            go_wp2
            go_ret
            exact ⟨ret_int HR.out.symm, drawn_three _ _ _ _⟩
  · have q1 : (((dg m).length : Int) == ((dg n).length : Int)) = false := beq_false_of_ne (by omega)
    have q2 : (((dg m).length : Int) != ((dg n).length : Int)) = true := by simp; omega
    by_cases hlt : (dg m).length < (dg n).length
    · have hR := Lib.hid (cmpI_lt (dg_len_lt hlt))
      clear ha hb hl
      generalize cmpI m n = R at *
      generalize (dg m).length = x at *
      generalize (dg n).length = y at *
      go_enter Tryd.func74, Tryd.ntmps74
      go_wp2_with (go_at_call 91; refine (sign_true _).mono ?_; rintro e w' ⟨rfl, rfl⟩)
      go_ret
      exact ⟨ret_int hR.out.symm, Drawn.refl _⟩
    · have hR := Lib.hid (cmpI_gt (dg_len_lt (m := n) (n := m) (by omega)))
      clear ha hb hl
      generalize cmpI m n = R at *
      generalize (dg m).length = x at *
      generalize (dg n).length = y at *
      go_enter Tryd.func74, Tryd.ntmps74
      go_wp2_with (go_at_call 91; refine (sign_false _).mono ?_; rintro e w' ⟨rfl, rfl⟩)
      go_ret
      exact ⟨ret_int hR.out.symm, Drawn.refl _⟩

end Go.Proofs.YtokkcmadgcdpiaaDoor.Wd
namespace Go.Proofs.YtokkcmadgcdpiaaDoor.Wd
open Go.RowKit

theorem Lim.drop {w : World} {B : Nat} {A : Option Addr} {n cap : Nat} {l : List Nat} (h : Lim w B (.slice A n cap) l) (k : Nat) (hk : k < n) :
    ∃ g o, A = some ⟨g, o, none⟩ ∧ Lim w B (.slice (some ⟨g, o + k, none⟩) (n - k) (cap - k)) (l.drop k) := by
  obtain ⟨A', cap', e, hc, hh⟩ := h.1
  rw [List.length_map] at e hc
  cases e
  obtain ⟨g, o, rfl, hg, hx⟩ := hh (by intro e; simp at e; rw [e] at hk; simp at hk)
  refine ⟨g, o, rfl, ⟨_, cap - k, by rw [List.length_map, List.length_drop], by rw [List.length_map, List.length_drop]; omega, fun _ => ⟨g, o + k, rfl, hg, fun j x hj => ?_⟩⟩, okL_drop h.2 k⟩
  rw [Nat.add_assoc]
  refine hx (k + j) x ?_
  rw [List.getElem?_map, List.getElem?_drop] at hj
  rw [List.getElem?_map]; exact hj
end Go.Proofs.YtokkcmadgcdpiaaDoor.Wd
namespace Go.Proofs.YtokkcmadgcdpiaaDoor.Wd
open Go.RowKit
/-- What is known while a limb is guessed. -/
structure Guess (a b K high low top next : Nat) : Prop where
  ea : (top * LB + next) * K ≤ a
  ea' : a < (top * LB + next + 1) * K
  eb : (high * LB + low) * K ≤ b
  eb' : b < (high * LB + low + 1) * K
  hh : 2147483648 ≤ high
  hh' : high < LB
  hl : low < LB
  hn : next < LB
  hK : 0 < K
  lt : a < b * LB
theorem Guess.pos {a b K high low top next : Nat} (h : Guess a b K high low top next) : 0 < b := by
  have := h.eb; have h1 := h.hh; have h2 := h.hK
  have : 0 < (high * LB + low) * K := Nat.mul_pos (by rw [LB_eq]; omega) h2
  omega
theorem Guess.top_le {a b K high low top next : Nat} (h : Guess a b K high low top next) : top ≤ high * LB + low := by
  have h1 := h.ea; have h2 := h.eb'; have h3 := h.lt
  have h4 : b * LB < (high * LB + low + 1) * K * LB := Nat.mul_lt_mul_of_pos_right h2 LB_pos
  have h5 : (top * LB + next) * K < (high * LB + low + 1) * LB * K := by
    have : (high * LB + low + 1) * K * LB = (high * LB + low + 1) * LB * K := by rw [Nat.mul_assoc, Nat.mul_comm K, ← Nat.mul_assoc]
    omega
  have h6 := Nat.lt_of_mul_lt_mul_right h5
  have h7 : top * LB < (high * LB + low + 1) * LB := by omega
  have := Nat.lt_of_mul_lt_mul_right h7
  omega
theorem Guess.first {a b K high low top next : Nat} (h : Guess a b K high low top next) : a / b ≤ top / high ∧ top / high ≤ LB + 1 := by
  have hh := h.hh; have hl := h.hl; have ht := h.top_le; have hpos : 0 < high := by omega
  constructor
  · have hlt : a / b < top / high + 1 := by
      refine guess_less (K := K * LB) (a3 := top) (b2 := high) ?_ ?_ h.pos ?_
      · have := h.ea'
        have h1 : top * LB + next + 1 ≤ (top + 1) * LB := by rw [Nat.add_mul]; have := h.hn; omega
        have h2 := Nat.mul_le_mul_right K h1
        have : (top + 1) * LB * K = (top + 1) * (K * LB) := by rw [Nat.mul_assoc, Nat.mul_comm LB]
        omega
      · have := h.eb
        have h2 := Nat.mul_le_mul_right K (Nat.le_add_right (high * LB) low)
        have : high * LB * K = high * (K * LB) := by rw [Nat.mul_assoc, Nat.mul_comm LB]
        omega
      · rw [Nat.mul_comm]; exact Nat.lt_mul_div_succ top hpos
    omega
  · have : top / high < LB + 2 := by
      rw [Nat.div_lt_iff_lt_mul hpos, Nat.add_mul, Nat.mul_comm LB]
      rw [LB_eq] at hl
      omega
    omega
end Go.Proofs.YtokkcmadgcdpiaaDoor.Wd
namespace Go.Proofs.YtokkcmadgcdpiaaDoor.Wd

/-- Between two limbs of a quotient. -/
structure DivI (a D j : Nat) (R Q : List Nat) : Prop where
  eq : val R + LB ^ j * val (Q.drop j) * D = a
  lt : val (R.drop j) < D
theorem drop_val {R : List Nat} {i x : Nat} (hx : R[i]? = some x) : val (R.drop i) = x + LB * val (R.drop (i + 1)) := by
  obtain ⟨hi, he⟩ := List.getElem?_eq_some_iff.1 hx
  rw [List.drop_eq_getElem_cons hi, he]; rfl
theorem step_lt {v D B x : Nat} (h : v < D) (hx : x < B) : x + B * v < D * B := by
  have h3 : (v + 1) * B ≤ D * B := Nat.mul_le_mul_right B h
  rw [Nat.add_mul, Nat.one_mul, Nat.mul_comm] at h3
  omega
theorem div_part {R : List Nat} {i k D : Nat} (hR : okL R) (hlen : i + k + 1 ≤ R.length) (hlt : val (R.drop (i + 1)) < D) (hD : D ≤ LB ^ k) :
    val ((R.drop i).take (k + 1)) = val (R.drop i) ∧ val (R.drop i) < D * LB := by
  obtain ⟨x, hx⟩ : ∃ x, R[i]? = some x := ⟨R[i]'(by omega), List.getElem?_eq_getElem (by omega)⟩
  have h1 := drop_val hx
  have hxB : x < LB := hR x (List.mem_of_getElem? hx)
  have h2 : val (R.drop i) < D * LB := by
    rw [h1]; exact step_lt hlt hxB
  refine ⟨?_, h2⟩
  have h4 : D * LB ≤ LB ^ k * LB := Nat.mul_le_mul_right _ hD
  have p1 : LB ^ (k + 1) = LB ^ k * LB := Nat.pow_succ ..
  rw [val_take_mod (okL_drop hR i), Nat.mod_eq_of_lt]
  rw [p1]; exact Nat.lt_of_lt_of_le h2 h4
theorem DivI.next {a D i k : Nat} {R Q r : List Nat} (h : DivI a D (i + 1) R Q) (hR : okL R) (hlen : i + k + 1 ≤ R.length) (hi : i < Q.length) (hD : D ≤ LB ^ k) (hD0 : 0 < D)
    (hr : r.length = k + 1) (hv : val r = val ((R.drop i).take (k + 1)) % D) : DivI a D i (upd R i r) (Q.set i (val ((R.drop i).take (k + 1)) / D)) := by
  obtain ⟨h1, h2⟩ := div_part hR hlen h.lt hD
  have e0 := h.eq
  have hsp := val_split R i (by omega)
  have hz : val (R.drop (i + (k + 1))) = 0 := by
    have := val_drop_div (okL_drop hR i) (k + 1)
    rw [List.drop_drop] at this
    have h4 : D * LB ≤ LB ^ k * LB := Nat.mul_le_mul_right _ hD
    have p1 : LB ^ (k + 1) = LB ^ k * LB := Nat.pow_succ ..
    rw [this, Nat.div_eq_of_lt]
    rw [p1]; exact Nat.lt_of_lt_of_le h2 h4
  have hl : (R.take i).length = i := by rw [List.length_take]; omega
  have hu : val (upd R i r) = val (R.take i) + LB ^ i * val r := by
    unfold upd
    rw [val_append, val_append, hl, hr, hz]; simp
  have hud : (upd R i r).drop i = r ++ R.drop (i + (k + 1)) := by
    unfold upd
    rw [List.append_assoc, List.drop_append, List.drop_eq_nil_of_le (by omega), hl, Nat.sub_self, hr]; simp
  have hQ : val ((Q.set i (val ((R.drop i).take (k + 1)) / D)).drop i) = val ((R.drop i).take (k + 1)) / D + LB * val (Q.drop (i + 1)) := by
    rw [drop_val (x := val ((R.drop i).take (k + 1)) / D) (by rw [List.getElem?_set_self hi]), List.drop_set, if_pos (Nat.lt_succ_self i)]
  rw [h1] at hv hQ ⊢
  refine ⟨?_, ?_⟩
  · have p1 : LB ^ (i + 1) = LB ^ i * LB := Nat.pow_succ ..
    rw [hu, hQ, hv, ← e0, hsp, p1]
    have hdm := Nat.div_add_mod (val (R.drop i)) D
    generalize val (R.drop i) / D = q at *
    generalize val (R.drop i) % D = m at *
    rw [← hdm]
    generalize LB ^ i = z
    generalize val (R.take i) = t
    generalize val (Q.drop (i + 1)) = u
    clear hD hv hQ hdm hsp e0 hz h2 h1 hu
    generalize LB = B
    grind
  · rw [hud, val_append, hr, hz, hv]
    rw [Nat.mul_zero, Nat.add_zero]; exact Nat.mod_lt _ hD0
theorem DivI.result {a D : Nat} {R Q : List Nat} (h : DivI a D 0 R Q) (hD : 0 < D) : val Q = a / D ∧ val R = a % D := by
  have h1 := h.eq; have h2 := h.lt
  simp only [List.drop_zero, Nat.pow_zero, Nat.one_mul] at h1 h2
  have : a = val R + D * val Q := by rw [← h1, Nat.mul_comm D]
  rw [this, Nat.add_mul_div_left _ _ hD, Nat.add_mul_mod_self_left, Nat.div_eq_of_lt h2, Nat.mod_eq_of_lt h2]
  exact ⟨by omega, rfl⟩
end Go.Proofs.YtokkcmadgcdpiaaDoor.Wd
namespace Go.Proofs.YtokkcmadgcdpiaaDoor.Wd
open Go.RowKit Go.Shelf
def KpB (n₀ Bn : Nat) (W W' : World) : Prop := Below n₀ W W' ∧ W'.heap[Bn]? = W.heap[Bn]?
theorem KpB.trans {n₀ Bn : Nat} {A B C : World} (h : KpB n₀ Bn A B) (k : KpB n₀ Bn B C) : KpB n₀ Bn A C := ⟨h.1.trans k.1, k.2.trans h.2⟩
/-- A block of one cell. -/
def One (W : World) (g : Nat) (t : TypeId) (v : Value) : Prop := W.heap[g]? = some (.cells #[v] t (0, 0))
theorem One.cell {W : World} {g : Nat} {t : TypeId} {v : Value} (h : One W g t v) : W.cell? ⟨g, 0, none⟩ = some v := by
  rw [Go.Joins.cell_of_block h 0]; rfl
theorem One.frozen {W : World} {g : Nat} {t : TypeId} {v : Value} (h : One W g t v) : W.frozen? ⟨g, 0, none⟩ = false := by
  have e : W.heap[g]? = some (.cells #[v] t (0, 0)) := h
  simp [World.frozen?, e]
end Go.Proofs.YtokkcmadgcdpiaaDoor.Wd
namespace Go.Proofs.YtokkcmadgcdpiaaDoor.Wd
open Go.RowKit Go.Shelf

attribute [local go_sem] Oper.semAt_some

theorem One.new (W : World) (t : TypeId) (v : Value) : One (W.alloc (.cells #[v] t)) W.heap.size t v := World.alloc_heap_new W _
theorem One.alloc {W : World} {g : Nat} {t : TypeId} {v : Value} (h : One W g t v) (o : Obj) : One (W.alloc o) g t v := by
  have hlt := (Array.getElem?_eq_some_iff.1 (show W.heap[g]? = some _ from h)).1
  exact (((Below.refl (g + 1) W).alloc hlt o).block g (Nat.lt_succ_self g)).trans h
theorem One.set {W : World} {g : Nat} {t : TypeId} {v : Value} (h : One W g t v) (u : Value) : One (W.setCell ⟨g, 0, none⟩ u) g t u := by
  have e : W.heap[g]? = some (.cells #[v] t (0, 0)) := h
  show (W.setCell _ _).heap[g]? = _
  simp [World.setCell, Array.getElem?_modify, e]
theorem Lim.at {W : World} {B B' g o n cap : Nat} {l : List Nat} (h : Lim W B (.slice (some ⟨g, o, none⟩) n cap) l) (hg : g < B') : Lim W B' (.slice (some ⟨g, o, none⟩) n cap) l := by
  obtain ⟨⟨A', cap', e, hc, hh⟩, ho⟩ := h
  cases e
  exact ⟨⟨_, _, rfl, hc, fun hne => by obtain ⟨g', o', e', _, hx⟩ := hh hne; cases e'; exact ⟨g, o, rfl, hg, hx⟩⟩, ho⟩

end Go.Proofs.YtokkcmadgcdpiaaDoor.Wd
namespace Go.Proofs.YtokkcmadgcdpiaaDoor.Wd
open Go.RowKit

set_option maxRecDepth 100000 in
set_option maxHeartbeats 2000000 in
theorem of_any (n : Nat) (hn : n < 18446744073709551616) (w : World) : Calls Tryd.prog 42 #[.int .u64 (n : Int)] w (NumPost w n) := by
  obtain ⟨lo, hi, e1, e2, e3, e4, e5⟩ : ∃ lo hi : Nat, (n : Int) % 4294967296 = (lo : Int) ∧ (n : Int) / 4294967296 % 4294967296 = (hi : Int) ∧ lo < 4294967296 ∧ hi < 4294967296 ∧ n = lo + LB * hi :=
    ⟨n % 4294967296, n / 4294967296, by omega, by omega, by omega, by omega, by rw [LB_eq]; omega⟩
  have hrow : Row (w.alloc (.cells #[.int .u32 (lo : Int), .int .u32 (hi : Int)] 97)) w.heap.size [lo, hi] := heap_alloc_new w _
  have hb : Below w.heap.size w (w.alloc (.cells #[.int .u32 (lo : Int), .int .u32 (hi : Int)] 97)) := (Below.refl _ _).alloc (Nat.le_refl _) _
  have hlim := hrow.whole (by intro x hx; simp at hx; rcases hx with rfl | rfl <;> (rw [LB_eq]; assumption)) 2 (by simp)
  have htr := trim_any _ _ _ hlim (by simp)
  have hv : val [lo, hi] = n := by simp only [val, Nat.mul_zero, Nat.add_zero]; exact e5.symm
  rw [hv] at htr
  have HTR := Lib.hid htr
  have E1 := Lib.hid e1
  have E2 := Lib.hid e2
  have hn0 : (0 : Int) ≤ (n : Int) := Int.natCast_nonneg _
  clear htr hlim hrow e1 e2 e5 hn hv
  go_enter Tryd.func42, Tryd.ntmps42
  go_wp2_with (rw [E1.out, E2.out]; go_at_call 75; refine HTR.out.mono ?_; rintro e w3 ⟨v', rfl, hnum, rfl⟩)
  go_ret
  exact ⟨_, rfl, hnum, hb⟩
end Go.Proofs.YtokkcmadgcdpiaaDoor.Wd
