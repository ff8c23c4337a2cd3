import Derived.Test.YtlababdfdjjjaaaGreatDoorNB
import Derived.Test.YtlababdfdjjjaaaGreatDoorShelf
import Derived.Deep.Cut
import Derived.StillTailTactics
import Derived.Laws.ShiftsVarLaws
namespace Go.Proofs.YtlababdfdjjjaaaGreatDoor
open Go.RowKit

theorem bits_half {x : Nat} (h : x ≠ 0) : bitsOf x = 1 + bitsOf (x / 2) := by
  unfold bitsOf
  rw [if_neg h, Nat.log2_def]
  split
  · rw [if_neg (by omega)]; omega
  · rw [if_pos (by omega)]
theorem bitLen_eq : ∀ (f x : Nat), x < 2 ^ f → Lib.bitLenAux f x = bitsOf x
  | 0, x, h => by
    have : x = 0 := by simpa using h
    subst this; rfl
  | f + 1, x, h => by
    unfold Lib.bitLenAux
    by_cases h0 : x = 0
    · rw [if_pos h0, h0]; rfl
    · rw [if_neg h0, bitLen_eq f (x / 2) (by rw [Nat.pow_succ] at h; omega), bits_half h0]
theorem bits32 (x : Nat) (h : x < 4294967296) : Lib.bitLen x = bitsOf x := bitLen_eq 64 x (by have : (2 : Nat) ^ 64 = 18446744073709551616 := rfl; omega)

def cmpI (m n : Nat) : Int := if m < n then -1 else if m = n then 0 else 1
theorem cmpI_lt {m n : Nat} (h : m < n) : cmpI m n = -1 := by unfold cmpI; rw [if_pos h]
theorem cmpI_eq {m n : Nat} (h : m = n) : cmpI m n = 0 := by unfold cmpI; rw [if_neg (by omega), if_pos h]
theorem cmpI_gt {m n : Nat} (h : n < m) : cmpI m n = 1 := by unfold cmpI; rw [if_neg (by omega), if_neg (by omega)]

theorem sign_true (w : World) : Calls Tryz.prog 111 #[.bool true] w fun e w' => e = .returned (.int .i64 (-1)) ∧ w = w' := by
  go_enter Tryz.func111, Tryz.ntmps111
  go_wp2
  go_ret
  exact ⟨rfl, rfl⟩
theorem sign_false (w : World) : Calls Tryz.prog 111 #[.bool false] w fun e w' => e = .returned (.int .i64 1) ∧ w = w' := by
  go_enter Tryz.func111, Tryz.ntmps111
  go_wp2
  go_ret
  exact ⟨rfl, rfl⟩

theorem Num.form {w : World} {B : Nat} {v : Value} {n : Nat} (h : Num w B v n) : ∃ A cap, v = .slice A (dg n).length cap ∧ (dg n).length ≤ cap := Lim.form h
theorem Num.below {w w' : World} {B : Nat} {v : Value} {n : Nat} (h : Num w B v n) (hb : Below B w w') : Num w' B v n := Lim.below h hb
theorem Num.more {w : World} {B B' : Nat} {v : Value} {n : Nat} (h : Num w B v n) (hB : B ≤ B') : Num w B' v n := Lim.more h hB
theorem Num.up {w w' : World} {v : Value} {n : Nat} (h : Num w w.heap.size v n) (hb : Below w.heap.size w w') : Num w' w'.heap.size v n := Lim.up h hb

theorem isZero_any (v : Value) (n : Nat) (w : World) (B : Nat) (hv : Num w B v n) : Calls Tryz.prog 77 #[v] w fun e w' => e = .returned (.bool (decide (n = 0))) ∧ w = w' := by
  obtain ⟨A, cap, rfl, -⟩ := hv.form
  have hd : decide (n = 0) = (((dg n).length : Int) == 0) := by
    by_cases h : n = 0
    · subst h; rw [dg_zero]; rfl
    · have : (dg n).length ≠ 0 := fun e => h (dg_nil.1 (List.eq_nil_of_length_eq_zero e))
      rw [decide_eq_false h, beq_false_of_ne (by omega)]
  rw [hd]
  generalize (dg n).length = k
  go_enter Tryz.func77, Tryz.ntmps77
  go_wp2
  go_ret
  exact ⟨rfl, rfl⟩

set_option maxRecDepth 100000 in
set_option maxHeartbeats 1000000 in
theorem isOne_any (v : Value) (n : Nat) (w : World) (B : Nat) (hv : Num w B v n) : Calls Tryz.prog 112 #[v] w fun e w' => e = .returned (.bool (decide (n = 1))) ∧ w = w' := by
  obtain ⟨A, cap, rfl, -⟩ := hv.form
  by_cases h1 : (dg n).length = 1
  · obtain ⟨x, hx⟩ : ∃ x, (dg n)[0]? = some x := ⟨(dg n)[0]'(by omega), List.getElem?_eq_getElem (by omega)⟩
    obtain ⟨g, o, rfl, hg, c0⟩ := Lim.cell hv hx
    have hl : dg n = [x] := by
      match hd : dg n, h1 with
      | [y], _ => rw [hd] at hx; simp at hx; rw [hx]
    have hn : n = x := by
      rw [← val_dg n, hl]; simp [val]
    have hd : decide (n = 1) = ((x : Int) == 1) := by
      rw [hn]
      by_cases h : x = 1
      · subst h; rfl
      · rw [decide_eq_false h, beq_false_of_ne (by omega)]
    rw [hd]
    have q1 : (((dg n).length : Int) == 1) = true := beq_iff_eq.2 (by omega)
    have hp : 0 < (dg n).length := by omega
    rw [Nat.add_zero] at c0
    clear h1 hx hl hn hd hv
    generalize (dg n).length = k at *
    go_enter Tryz.func112, Tryz.ntmps112
    go_wp2
    go_ret
    exact ⟨rfl, rfl⟩
  · have hd : decide (n = 1) = false := by
      rw [decide_eq_false_iff_not]
      rintro rfl
      apply h1
      rw [dg_pos (by omega)]
      rw [Nat.div_eq_of_lt (by rw [LB_eq]; omega), dg_zero]; rfl
    rw [hd]
    have q1 : (((dg n).length : Int) == 1) = false := beq_false_of_ne (by omega)
    clear h1 hd hv
    generalize (dg n).length = k at *
    go_enter Tryz.func112, Tryz.ntmps112
    go_wp2
    go_ret
    exact ⟨rfl, rfl⟩

theorem last_limb {n : Nat} (h : n ≠ 0) : ∃ l x, dg n = l ++ [x] ∧ okL l ∧ x ≠ 0 ∧ x < LB := by
  have hne : dg n ≠ [] := fun e => h (dg_nil.1 e)
  obtain ⟨h1, h2⟩ := right_dg n
  refine ⟨(dg n).dropLast, (dg n).getLast hne, (List.dropLast_concat_getLast hne).symm, fun x hx => h1 x (List.dropLast_subset _ hx), ?_, h1 _ (List.getLast_mem hne)⟩
  rw [List.getLast?_eq_some_getLast hne] at h2
  exact fun e => h2 (by rw [e])

set_option maxRecDepth 100000 in
set_option maxHeartbeats 1000000 in
theorem length_any (v : Value) (n : Nat) (w : World) (B : Nat) (hv : Num w B v n) (hlen : (dg n).length ≤ 100000000) : Calls Tryz.prog 71 #[v] w fun e w' => e = .returned (.int .i64 (bitsOf n)) ∧ w = w' := by
  have hz := isZero_any v n w B hv
  obtain ⟨A, cap, rfl, -⟩ := hv.form
  by_cases h0 : n = 0
  · subst h0
    have HZ := Lib.hid hz
    clear hz hv
    generalize (dg 0).length = k at *
    go_enter Tryz.func71, Tryz.ntmps71
    go_wp2_with (go_at_call 77; refine HZ.out.mono ?_; rintro e w' ⟨rfl, rfl⟩)
    go_ret
    exact ⟨rfl, rfl⟩
  · obtain ⟨l, x, hl, hlo, hx0, hxB⟩ := last_limb h0
    have hb := bits_top hlo hx0
    rw [← hl, val_dg] at hb
    have hx : (dg n)[l.length]? = some x := by rw [hl]; simp
    obtain ⟨g, o, rfl, hg, c0⟩ := Lim.cell hv hx
    have hk : (dg n).length = l.length + 1 := by rw [hl]; simp
    have hxB' : x < 4294967296 := hxB
    have hbx : bitsOf x ≤ 32 := bits_le_iff.2 (by have : (2:Nat)^32 = 4294967296 := rfl; omega)
    have hcall : ∀ w, Calls Tryz.prog 113 #[.int .u32 (x : Int)] w fun e w' => e = .returned (.int .i64 (bitsOf x)) ∧ w = w' := by
      intro w
      refine (Tryz.bits_Len32 x w (by omega) (by omega)).mono ?_
      rintro e w' ⟨rfl, rfl⟩
      exact ⟨by rw [Int.toNat_natCast, bits32 x hxB'], rfl⟩
    rw [decide_eq_false h0] at hz
    rw [hb]
    have HC := Lib.hid hcall
    have HZ := Lib.hid hz
    have HK := Lib.hid hk
    clear hb hx hcall hz hv hl hxB
    generalize bitsOf x = y at *
    generalize (dg n).length = k at *
    obtain rfl := HK.out
    generalize l.length = j at *
    go_enter Tryz.func71, Tryz.ntmps71
    go_wp2_with (first
      | (go_at_call 77; refine HZ.out.mono ?_; rintro e w' ⟨rfl, rfl⟩)
      | (go_at_call 113; refine (HC.out _).mono ?_; rintro e w' ⟨rfl, rfl⟩))
    go_ret
    exact ⟨by go_num, rfl⟩
end Go.Proofs.YtlababdfdjjjaaaGreatDoor
namespace Go.Proofs.YtlababdfdjjjaaaGreatDoor
open Go.RowKit

theorem quiet_w {f : FuncId} {args : Array Value} {v : Value} (c : ∀ W : World, Calls Tryz.prog f args W fun e w' => e = .returned v ∧ W = w') (w : World) (a n : Nat) :
    Calls Tryz.prog f args (w.drewN (a + n)) fun e w'' => e = .returned v ∧ ∃ m, w'' = w.drewN (a + m) :=
  (c _).mono fun _ _ h => ⟨h.1, n, h.2.symm⟩
theorem quiet_w1 {f : FuncId} {args : Array Value} {v : Value} (c : ∀ W : World, Calls Tryz.prog f args W fun e w' => e = .returned v ∧ W = w') (w : World) (n : Nat) :
    Calls Tryz.prog f args (w.drewN n) fun e w'' => e = .returned v ∧ ∃ m, w'' = w.drewN m :=
  (c _).mono fun _ _ h => ⟨h.1, n, h.2.symm⟩

theorem drawn_three (w : World) (a b c : Nat) : Drawn w (((w.drewN a).drewN b).drewN c) := ⟨_, by rw [drewN_drewN, drewN_drewN]⟩
def CpRel (w : World) (a b : List Nat) (i : Value) (wr : World) : Prop :=
  ∃ k : Nat, k ≤ a.length ∧ ((k = 0 ∧ i = .int .i64 (-1)) ∨ (∃ j : Nat, k = j + 1 ∧ i = .int .i64 (j : Int))) ∧ a.drop k = b.drop k ∧ Drawn w wr
def mI : Value → Nat
  | .int _ n => (n + 1).toNat
  | _ => 0

set_option maxRecDepth 100000 in
set_option maxHeartbeats 2000000 in
theorem compare_any (va vb : Value) (m n : Nat) (w : World) (ha : Num w w.heap.size va m) (hb : Num w w.heap.size vb n) (hla : (dg m).length ≤ 100000000) :
    Calls Tryz.prog 88 #[va, vb] w fun e w' => e = .returned (.int .i64 (cmpI m n)) ∧ Drawn w w' := by
  obtain ⟨A, capa, rfl, -⟩ := ha.form
  obtain ⟨B, capb, rfl, -⟩ := hb.form
  by_cases hl : (dg m).length = (dg n).length
  · have ho := ok_dg m
    have ho' := ok_dg n
    have hfin : ∀ k x y, (dg m)[k]? = some x → (dg n)[k]? = some y → (dg m).drop (k + 1) = (dg n).drop (k + 1) → (x < y → cmpI m n = -1) ∧ (y < x → cmpI m n = 1) := by
      intro k x y hx hy hd
      constructor
      · intro h
        have := val_lt_take ho ho' hx hy hl hd h
        rw [val_dg, val_dg] at this
        exact cmpI_lt this
      · intro h
        have := val_lt_take ho' ho hy hx hl.symm hd.symm h
        rw [val_dg, val_dg] at this
        exact cmpI_gt this
    have hend : (dg m).drop 0 = (dg n).drop 0 → cmpI m n = 0 := by
      intro h
      have := val_eq_drop h
      rw [val_dg, val_dg] at this
      exact cmpI_eq this
    have hA : Lim w w.heap.size (.slice A (dg m).length capa) (dg m) := ha
    have hB : Lim w w.heap.size (.slice B (dg n).length capb) (dg n) := hb
    have HF := Lib.hid hfin
    have HE := Lib.hid hend
    have q1 : (((dg m).length : Int) == ((dg n).length : Int)) = true := beq_iff_eq.2 (by omega)
    have q2 : (((dg m).length : Int) != ((dg n).length : Int)) = false := by simp [hl]
    clear ha hb hfin hend
    generalize cmpI m n = R at *
    generalize hda : dg m = a at *
    generalize hdb : dg n = b at *
    have HL := Lib.hid hl
    have hl1 : a.length ≤ b.length := by omega
    have hl2 : b.length ≤ a.length := by omega
    clear hda hdb hl
    have HA := Lib.hid hA
    have HB := Lib.hid hB
    clear hA hB
    go_enter Tryz.func88, Tryz.ntmps88
    go_wp2
    go_loopw [5] (fun i wr => CpRel w a b i wr) (fun i _ => mI i)
    case atStart =>
      refine ⟨a.length, Nat.le_refl _, ?_, ?_, Drawn.refl w⟩
      · rcases Nat.eq_zero_or_pos a.length with h | h
        · left; exact ⟨h, by rw [h]; rfl⟩
        · right; exact ⟨a.length - 1, by omega, by congr 1; omega⟩
      · rw [List.drop_eq_nil_of_le (Nat.le_refl _), List.drop_eq_nil_of_le hl2]
    case round =>
      obtain ⟨k, hk, hcase, hd, hdr⟩ := hrel
      have HD := Lib.hid hd
      clear hd
      rcases hcase with ⟨rfl, rfl⟩ | ⟨j, rfl, rfl⟩
      · go_wp2
        go_ret
        exact ⟨ret_int (HE.out HD.out).symm, hdr⟩
      · obtain ⟨x, hx⟩ : ∃ x, a[j]? = some x := ⟨a[j]'(by omega), List.getElem?_eq_getElem (by omega)⟩
        obtain ⟨y, hy⟩ : ∃ y, b[j]? = some y := ⟨b[j]'(by omega), List.getElem?_eq_getElem (by omega)⟩
        obtain ⟨g, o, rfl, hg, c0⟩ := HA.out.cell hx
        obtain ⟨g', o', rfl, hg', d0⟩ := HB.out.cell hy
        obtain ⟨q, rfl⟩ := hdr
        have hbb := below_drewN w q
        have c0 := (hbb.cell (p := ⟨g, o + j, none⟩) hg).trans c0
        have d0 := (hbb.cell (p := ⟨g', o' + j, none⟩) hg').trans d0
        have i1 : (0 : Int) ≤ (j : Int) := Int.natCast_nonneg _
        have i2 : (j : Int) < (a.length : Int) := by omega
        have i3 : (j : Int) < (b.length : Int) := by omega
        have HFF := Lib.hid (HF.out j x y hx hy HD.out)
        have HX := Lib.hid hx
        have HY := Lib.hid hy
        clear hx hy hbb
        by_cases hxy : x = y
        · subst hxy
          have HS := Lib.hid (drop_step HX.out HY.out HD.out)
          go_wp2
          go_quiet (fail)
          go_wp2
          go_roundw
          case rel =>
            refine ⟨j, by omega, ?_, HS.out, _, by first | rfl | exact drewN_drewN _ _ _⟩
            rcases Nat.eq_zero_or_pos j with h | h
            · left; exact ⟨h, by rw [h]; rfl⟩
            · right; exact ⟨j - 1, by omega, by congr 1; omega⟩
          case measure => simp [mI]
        · have p1 : ((x : Int) == (y : Int)) = false := beq_false_of_ne (by omega)
          have p2 : ((x : Int) != (y : Int)) = true := by simp; omega
          by_cases hlt : x < y
          · have hlt' : (x : Int) < (y : Int) := by omega
            have HR := Lib.hid (HFF.out.1 hlt)
            clear hxy
            go_wp2
            go_quiet (fail)
            go_wp2
            go_quiet ((go_at_call 111; first | exact quiet_w1 sign_true _ _ | exact quiet_w sign_true _ _ _))
            go_wp2
            go_ret
            exact ⟨ret_int HR.out.symm, drawn_three _ _ _ _⟩
          · have hlt' : ¬ (x : Int) < (y : Int) := by omega
            have HR := Lib.hid (HFF.out.2 (by omega))
            clear hxy
            go_wp2
            go_quiet (fail)
            go_wp2
            go_quiet ((go_at_call 111; first | exact quiet_w1 sign_false _ _ | exact quiet_w sign_false _ _ _))
            go_wp2
            go_ret
            exact ⟨ret_int HR.out.symm, drawn_three _ _ _ _⟩
  · have q1 : (((dg m).length : Int) == ((dg n).length : Int)) = false := beq_false_of_ne (by omega)
    have q2 : (((dg m).length : Int) != ((dg n).length : Int)) = true := by simp; omega
    by_cases hlt : (dg m).length < (dg n).length
    · have hR := Lib.hid (cmpI_lt (dg_len_lt hlt))
      clear ha hb hl
      generalize cmpI m n = R at *
      generalize (dg m).length = x at *
      generalize (dg n).length = y at *
      go_enter Tryz.func88, Tryz.ntmps88
      go_wp2_with (go_at_call 111; refine (sign_true _).mono ?_; rintro e w' ⟨rfl, rfl⟩)
      go_ret
      exact ⟨ret_int hR.out.symm, Drawn.refl _⟩
    · have hR := Lib.hid (cmpI_gt (dg_len_lt (m := n) (n := m) (by omega)))
      clear ha hb hl
      generalize cmpI m n = R at *
      generalize (dg m).length = x at *
      generalize (dg n).length = y at *
      go_enter Tryz.func88, Tryz.ntmps88
      go_wp2_with (go_at_call 111; refine (sign_false _).mono ?_; rintro e w' ⟨rfl, rfl⟩)
      go_ret
      exact ⟨ret_int hR.out.symm, Drawn.refl _⟩

set_option maxRecDepth 100000 in
set_option maxHeartbeats 1000000 in
theorem difference_any (va vb : Value) (m n : Nat) (w : World) (ha : Num w w.heap.size va m) (hb : Num w w.heap.size vb n) (hle : n ≤ m) (hla : (dg m).length ≤ 100000000) :
    Calls Tryz.prog 96 #[va, vb] w (NumPost w (m - n)) := by
  obtain ⟨A, capa, rfl, -⟩ := ha.form
  have hcl := clone_any _ _ w ha (by omega)
  have HC := Lib.hid hcl
  have HB := Lib.hid hb
  have hlb : (dg n).length ≤ (dg m).length := dg_mono hle
  clear ha hb hcl
  obtain ⟨B, capb, rfl, -⟩ := HB.out.form
  have hB : Lim w w.heap.size (.slice B (dg n).length capb) (dg n) := HB.out
  have hv := val_dg n
  have hv' := val_dg m
  have ho := ok_dg m
  have HV := Lib.hid hv
  have HV' := Lib.hid hv'
  have HO := Lib.hid ho
  have HBB := Lib.hid hB
  clear hv hv' ho HB hB
  generalize dg m = a at *
  generalize dg n = b at *
  go_enter Tryz.func96, Tryz.ntmps96
  go_wp2_with (first
    | (go_at_call 127; refine HC.out.mono ?_; rintro e w1 ⟨rfl, hrow, hb1⟩)
    | (go_at_call 128; refine (takeTimes_any w.heap.size w.heap.size 0 a.length a.length a b _ 1 w1 hrow HO.out (HBB.out.below hb1) (Nat.le_refl _) hb1.size (by rw [LB_eq]; omega) hlb (by omega) (by omega) (Nat.le_refl _)).mono ?_; rintro e w2 ⟨r, bw, rfl, hrl, hro, hrv, hrow2, hgr, hz⟩; have hb2 := below_grown hb1 hgr (Nat.le_refl _); have e1 : upd a 0 r = r := (by unfold upd; rw [List.drop_eq_nil_of_le (by omega)]; simp); have hval : val r = m - n := (by
        rw [List.drop_zero, List.take_length, HV.out, HV'.out, Nat.one_mul] at hrv
        have h1 := le_pow_of hro (Nat.le_of_eq hrl)
        rcases Nat.eq_zero_or_pos bw with h0 | h0
        · rw [h0] at hrv; omega
        · have h2 : 1 * LB ^ a.length ≤ bw * LB ^ a.length := Nat.mul_le_mul_right _ h0
          have h3 := le_pow_of HO.out (Nat.le_refl _)
          rw [HV'.out] at h3
          omega); have hlim := hrow2.whole (by rw [e1]; exact hro) a.length (by rw [e1]; omega); rw [e1, hrl] at hlim; have HL := Lib.hid hlim; have HVV := Lib.hid hval; clear hrl hro hrv hrow2 hgr hz hlim hval e1)
    | (go_at_call 75; refine (trim_any _ _ _ HL.out (by have := HL.out.1.form; obtain ⟨_, _, e, _⟩ := this; simp at e; omega)).mono ?_; rintro e w3 ⟨v', rfl, hnum, rfl⟩))
  go_ret
  exact ⟨_, rfl, by rw [HVV.out] at hnum; exact hnum, hb2⟩
end Go.Proofs.YtlababdfdjjjaaaGreatDoor
namespace Go.Proofs.YtlababdfdjjjaaaGreatDoor
open Go.RowKit

theorem Lim.drop {w : World} {B : Nat} {A : Option Addr} {n cap : Nat} {l : List Nat} (h : Lim w B (.slice A n cap) l) (k : Nat) (hk : k < n) :
    ∃ g o, A = some ⟨g, o, none⟩ ∧ Lim w B (.slice (some ⟨g, o + k, none⟩) (n - k) (cap - k)) (l.drop k) := by
  obtain ⟨A', cap', e, hc, hh⟩ := h.1
  rw [List.length_map] at e hc
  cases e
  obtain ⟨g, o, rfl, hg, hx⟩ := hh (by intro e; simp at e; rw [e] at hk; simp at hk)
  refine ⟨g, o, rfl, ⟨_, cap - k, by rw [List.length_map, List.length_drop], by rw [List.length_map, List.length_drop]; omega, fun _ => ⟨g, o + k, rfl, hg, fun j x hj => ?_⟩⟩, okL_drop h.2 k⟩
  rw [Nat.add_assoc]
  refine hx (k + j) x ?_
  rw [List.getElem?_map, List.getElem?_drop] at hj
  rw [List.getElem?_map]; exact hj
theorem copyV (w : World) (A : Option Addr) (g off dLen dCap sLen sCap B : Nat) (L l : List Nat) (hr : Row w g L) (he : sLen = l.length) (hs : Lim w B (.slice A l.length sCap) l) (hl : l.length ≤ dLen) (hfit : off + l.length ≤ L.length) :
    ∃ w', (Builtin.copy_ #[24, 24] 3 #[.slice (some ⟨g, off, none⟩) dLen dCap, .slice A sLen sCap]).run Tryz.prog w = .ok (.int .i64 (l.length : Int)) w' ∧
      Row w' g (splice L off l) ∧ w.grownBy w' (some g) ∧ w'.heap.size = w.heap.size := by
  subst he; exact copyU w A g off dLen dCap sCap B L l hr hs hl hfit
theorem two_pow_split (q s : Nat) : 2 ^ (32 * q + s) = LB ^ q * 2 ^ s := by rw [Nat.pow_add, LBpow]

theorem or_join {x y s : Nat} (hx : x < 4294967296) (hs : s < 32) :
    bits .or .u32 ((x : Int) / 2 ^ s) ((y : Int) * 2 ^ (32 - s) % 4294967296) = ((x / 2 ^ s + y * 2 ^ (32 - s) % LB : Nat) : Int) := by
  have e1 : (x : Int) / 2 ^ s = ((x / 2 ^ s : Nat) : Int) := by rw [Int.natCast_ediv, Int.natCast_pow]; rfl
  have e2 : (y : Int) * 2 ^ (32 - s) % 4294967296 = ((y * 2 ^ (32 - s) % LB : Nat) : Int) := by
    rw [Int.natCast_emod, Int.natCast_mul, Int.natCast_pow]; rfl
  have hM : 0 < 2 ^ s := Nat.two_pow_pos s
  have hMN := LB_two_pow (k := s) (by omega)
  have h1 : x / 2 ^ s < 2 ^ (32 - s) := by rw [Nat.div_lt_iff_lt_mul hM, Nat.mul_comm, ← hMN]; exact hx
  have h2 : y * 2 ^ (32 - s) % LB = 2 ^ (32 - s) * (y % 2 ^ s) := by
    rw [hMN, Nat.mul_comm y, Nat.mul_comm (2 ^ s), Nat.mul_mod_mul_left]
  have h3 : x / 2 ^ s ≤ x := Nat.div_le_self _ _
  rw [e1, e2, u32_or_nat (x / 2 ^ s) (y * 2 ^ (32 - s) % LB) (by omega) (Nat.mod_lt _ LB_pos), Nat.or_comm, nat_join (32 - s) _ _ (by rw [h2]; exact Nat.mul_mod_right _ _) h1, Nat.add_comm]
theorem sh_set {M N : Nat} {l : List Nat} {k x y : Nat} (hx : l[k]? = some x) (hy : l[k + 1]? = some y) : ((shrL M N l).take k ++ l.drop k).set k (x / M + y * N % LB) = (shrL M N l).take (k + 1) ++ l.drop (k + 1) := by
  have hk : k < l.length := (List.getElem?_eq_some_iff.1 hx).1
  have hs := shrL_at M N l k hk
  rw [hx, hy] at hs
  have hl : ((shrL M N l).take k).length = k := by rw [List.length_take, shrL_len]; omega
  rw [List.set_append, if_neg (by omega), hl, Nat.sub_self, List.drop_eq_getElem_cons hk, List.set_cons_zero, take_snoc' _ _ _ hs]
  simp
theorem sh_last {M N : Nat} {l : List Nat} {k x : Nat} (hx : l[k]? = some x) (hk : l.length = k + 1) : ((shrL M N l).take k ++ l.drop k).set k (x / M) = shrL M N l := by
  have hk' : k < l.length := by omega
  have hs := shrL_at M N l k hk'
  have hn : l[k + 1]? = none := List.getElem?_eq_none (by omega)
  rw [hx, hn] at hs
  simp only [Option.getD_some, Option.getD_none, Nat.zero_mul, Nat.zero_mod, Nat.add_zero] at hs
  have hl : ((shrL M N l).take k).length = k := by rw [List.length_take, shrL_len]; omega
  rw [List.set_append, if_neg (by omega), hl, Nat.sub_self, List.drop_eq_getElem_cons hk', List.set_cons_zero, List.drop_eq_nil_of_le (by omega), ← take_snoc' _ _ _ hs, List.take_of_length_le (by rw [shrL_len]; omega)]
theorem shr_cast (x s : Nat) : (x : Int) / 2 ^ s = ((x / 2 ^ s : Nat) : Int) := by rw [Int.natCast_ediv, Int.natCast_pow]; rfl

def SdRel (w : World) (g M N : Nat) (l : List Nat) (i : Value) (wr : World) : Prop :=
  ∃ k : Nat, k + 1 ≤ l.length ∧ i = .int .i64 k ∧ Row wr g ((shrL M N l).take k ++ l.drop k) ∧ Below w.heap.size w wr

set_option maxRecDepth 100000 in
set_option maxHeartbeats 2000000 in
theorem shiftDown_any (va : Value) (m n : Nat) (w : World) (ha : Num w w.heap.size va m) (hn : n ≤ 1000000000) (hla : (dg m).length ≤ 100000000) :
    Calls Tryz.prog 91 #[va, .int .i64 (n : Int)] w (NumPost w (m / 2 ^ n)) := by
  obtain ⟨A, capa, rfl, hcapa⟩ := ha.form
  obtain ⟨q, s, hs, hq, e1, e2⟩ : ∃ q s : Nat, s < 32 ∧ n = 32 * q + s ∧ (n : Int) / 32 = (q : Int) ∧ (n : Int) % 32 = (s : Int) := ⟨n / 32, n % 32, by omega, by omega, by omega, by omega⟩
  have hA : Lim w w.heap.size (.slice A (dg m).length capa) (dg m) := ha
  have hval : m / 2 ^ n = val ((dg m).drop q) / 2 ^ s := by
    rw [val_drop_div (ok_dg m), val_dg, hq, two_pow_split, Nat.div_div_eq_div_mul]
  have E1 := Lib.hid e1
  have E2 := Lib.hid e2
  have hnn : (0 : Int) ≤ (n : Int) := Int.natCast_nonneg _
  rw [hval]
  clear e1 e2 hval hq ha
  generalize dg m = a at *
  by_cases hql : q < a.length
  · obtain ⟨g, o, rfl, hdr⟩ := hA.drop q hql
    obtain ⟨l, hl⟩ : ∃ l, l = a.drop q := ⟨_, rfl⟩
    have hll : l.length = a.length - q := by rw [hl, List.length_drop]
    rw [← hl] at hdr ⊢
    rw [← hll] at hdr
    have hmk := fun W => mkI ((a.length : Int) - (q : Int)) l.length (by omega) (by omega) W
    have hb0 : Below w.heap.size w (w.alloc (.cells (zeros l.length).toArray 64)) := (Below.refl _ _).alloc (Nat.le_refl _) _
    obtain ⟨w1, hcp, hr1, hg1, hz1⟩ := copyV (w.alloc (.cells (zeros l.length).toArray 64)) _ w.heap.size 0 l.length l.length (a.length - q) (capa - q) w.heap.size (List.replicate l.length 0) l (Row.new w _) hll.symm (hdr.below hb0) (Nat.le_refl _) (by simp)
    rw [splice_full _ _ rfl] at hr1
    have hb1 := below_grown hb0 hg1 (Nat.le_refl _)
    have HR := Lib.hid hr1
    have HLE := Lib.hid hl
    have HLL := Lib.hid hll
    have HO := Lib.hid hdr.2
    have hcq : q < capa := by omega
    have q1 : decide (a.length ≤ q) = false := by simp; omega
    have hl1 : a.length ≤ l.length + q := by omega
    have hl2 : l.length + q ≤ a.length := by omega
    clear hA hdr hr1 hg1 hl hll hb0
    go_enter Tryz.func91, Tryz.ntmps91
    go_upto_region 2 with (fail)
    rw [E1.out, E2.out]
    go_wp2
    go_loopw [30] (fun i wr => SdRel w w.heap.size (2 ^ s) (2 ^ (32 - s)) l i wr) (fun i _ => l.length - (intOf i).toNat)
    case atStart => exact ⟨0, by omega, rfl, by simpa using HR.out, hb1⟩
    case round =>
      obtain ⟨k, hk, rfl, hrow, hb⟩ := hrel
      by_cases hlt : k + 1 < l.length
      · obtain ⟨x, hx⟩ : ∃ x, l[k]? = some x := ⟨l[k]'(by omega), List.getElem?_eq_getElem (by omega)⟩
        obtain ⟨y, hy⟩ : ∃ y, l[k + 1]? = some y := ⟨l[k + 1]'(by omega), List.getElem?_eq_getElem (by omega)⟩
        have c0 := hrow.cell (i := k) (x := x) (by rw [List.getElem?_append_right (by rw [List.length_take, shrL_len]; omega), List.length_take, shrL_len, List.getElem?_drop, ← hx]; congr 1; omega)
        have c1 := hrow.cell (i := k + 1) (x := y) (by rw [List.getElem?_append_right (by rw [List.length_take, shrL_len]; omega), List.length_take, shrL_len, List.getElem?_drop, ← hy]; congr 1; omega)
        have f0 := hrow.frozen k
        have hx1 := Lim.lt HO.out hx
        have hy1 := Lim.lt HO.out hy
        have i1 : (0 : Int) ≤ (k : Int) := Int.natCast_nonneg _
        have i2 : (k : Int) + 1 < (l.length : Int) := by omega
        have i3 : (0 : Int) ≤ (k : Int) + 1 := by omega
        have i4 : ((k : Int) + 1).toNat = k + 1 := by omega
        have i5 : (k : Int) < (l.length : Int) := by omega
        have i6 : IntKind.i64.wrap ((k : Int) + 1) = (k : Int) + 1 := IntWalk.i64_in _ (by omega)
        have i7 : IntKind.i64.wrap (32 - (s : Int)) = 32 - (s : Int) := IntWalk.i64_in _ (by omega)
        have hkl : (k : Int) < (l.length : Int) - 1 := by omega
        have HX := Lib.hid hx
        have HY := Lib.hid hy
        clear hx hy
        go_wp2
        go_still_tail 18, (by kernel_rfl)
        change wpList _ _ _ _ _ wr.drew
        have hrow2 : Row wr.drew w.heap.size ((shrL (2 ^ s) (2 ^ (32 - s)) l).take k ++ l.drop k) := hrow
        have hb2 : Below w.heap.size w wr.drew := hb.drew
        have f2 := hrow2.frozen k
        have d0 : wr.drew.cell? ⟨w.heap.size, k, none⟩ = some (.int .u32 (x : Int)) := c0
        clear c0 c1 f0 hrow hb
        generalize wr.drew = w2 at *
        go_wp2
        rw [or_join hx1 hs]
        have h3 := hrow2.set k (x / 2 ^ s + y * 2 ^ (32 - s) % LB)
        rw [sh_set HX.out HY.out] at h3
        have h4 : Below w.heap.size w (w2.setCell ⟨w.heap.size, k, none⟩ (.int .u32 ((x / 2 ^ s + y * 2 ^ (32 - s) % LB : Nat) : Int))) := hb2.setCell (p := ⟨w.heap.size, k, none⟩) (Nat.le_refl _) _
        exact ⟨⟨k + 1, by omega, by go_num, h3, h4⟩, by simp [intOf]; omega⟩
      · obtain ⟨x, hx⟩ : ∃ x, l[k]? = some x := ⟨l[k]'(by omega), List.getElem?_eq_getElem (by omega)⟩
        have c0 := hrow.cell (i := k) (x := x) (by rw [List.getElem?_append_right (by rw [List.length_take, shrL_len]; omega), List.length_take, shrL_len, List.getElem?_drop, ← hx]; congr 1; omega)
        have f0 := hrow.frozen k
        have hx1 := Lim.lt HO.out hx
        have hM : 0 < 2 ^ s := Nat.two_pow_pos s
        have h3 := hrow.set k (x / 2 ^ s)
        rw [sh_last hx (by omega)] at h3
        have h4 := (h3.whole (shrL_ok hM (LB_two_pow (by omega)) HO.out) l.length (by rw [shrL_len]; exact Nat.le_refl _))
        rw [shrL_len] at h4
        have hval := val_shrL hM (LB_two_pow (k := s) (by omega)) l
        have hb4 : Below w.heap.size w (wr.setCell ⟨w.heap.size, k, none⟩ (.int .u32 ((x / 2 ^ s : Nat) : Int))) := hb.setCell (p := ⟨w.heap.size, k, none⟩) (Nat.le_refl _) _
        have htr := trim_any _ _ _ h4 (by rw [shrL_len]; omega)
        rw [hval] at htr
        have HTR := Lib.hid htr
        have hkl : (l.length : Int) - 1 = (k : Int) := by omega
        have HB4 := Lib.hid hb4
        clear hx h3 h4 hval hb4 htr hrow
        go_wp2_with (rw [shr_cast]; go_at_call 75; refine HTR.out.mono ?_; rintro e w3 ⟨v', rfl, hnum, rfl⟩)
        go_ret
        exact ⟨_, rfl, hnum, HB4.out⟩
  · have hz : val (a.drop q) / 2 ^ s = 0 := by rw [List.drop_eq_nil_of_le (by omega)]; simp [val]
    rw [hz]
    clear hA hz
    generalize a.length = la at *
    go_enter Tryz.func91, Tryz.ntmps91
    go_upto_region 2 with (fail)
    rw [E1.out, E2.out]
    go_wp2
    go_ret
    exact ⟨_, rfl, Num.zero _ _, Below.refl _ _⟩
end Go.Proofs.YtlababdfdjjjaaaGreatDoor
namespace Go.Proofs.YtlababdfdjjjaaaGreatDoor
open Go.RowKit

theorem or_join2 {x y s : Nat} (hy : y < 4294967296) (hs : s < 32) :
    bits .or .u32 ((x : Int) * 2 ^ s % 4294967296) ((y : Int) / 2 ^ (32 - s)) = ((x * 2 ^ s % LB + y / 2 ^ (32 - s) : Nat) : Int) := by
  have e1 : (y : Int) / 2 ^ (32 - s) = ((y / 2 ^ (32 - s) : Nat) : Int) := by rw [Int.natCast_ediv, Int.natCast_pow]; rfl
  have e2 : (x : Int) * 2 ^ s % 4294967296 = ((x * 2 ^ s % LB : Nat) : Int) := by
    rw [Int.natCast_emod, Int.natCast_mul, Int.natCast_pow]; rfl
  have hM : 0 < 2 ^ (32 - s) := Nat.two_pow_pos _
  have hMN := LB_two_pow (k := s) (by omega)
  have h1 : y / 2 ^ (32 - s) < 2 ^ s := by rw [Nat.div_lt_iff_lt_mul hM, ← hMN]; exact hy
  have h2 : x * 2 ^ s % LB = 2 ^ s * (x % 2 ^ (32 - s)) := by
    rw [hMN, Nat.mul_comm x, Nat.mul_mod_mul_left]
  have h3 : y / 2 ^ (32 - s) ≤ y := Nat.div_le_self _ _
  rw [e1, e2, u32_or_nat (x * 2 ^ s % LB) (y / 2 ^ (32 - s)) (Nat.mod_lt _ LB_pos) (by omega), nat_join s _ _ (by rw [h2]; exact Nat.mul_mod_right _ _) h1]
theorem shl_cast (x s : Nat) : (x : Int) * 2 ^ s % 4294967296 = ((x * 2 ^ s % LB : Nat) : Int) := by
  rw [Int.natCast_emod, Int.natCast_mul, Int.natCast_pow]; rfl

/-- The row of shiftUp, of which the limbs from place j + 1 on are done. -/
def upRow (q M N : Nat) (a : List Nat) (j : Nat) : List Nat := List.replicate q 0 ++ ((a ++ [0]).take (j + 1) ++ (shlL M N 0 a).drop (j + 1))
theorem upRow_len (q M N : Nat) (a : List Nat) (j : Nat) (h : j ≤ a.length) : (upRow q M N a j).length = q + a.length + 1 := by
  unfold upRow; simp [shlL_len]; omega
theorem upRow_at (q M N : Nat) (a : List Nat) (j i : Nat) (hi : i ≤ j) (hj : j ≤ a.length) : (upRow q M N a j)[q + i]? = some (a[i]?.getD 0) := by
  unfold upRow
  rw [List.getElem?_append_right (by simp), List.length_replicate, Nat.add_sub_cancel_left, List.getElem?_append_left (by simp; omega), List.getElem?_take, if_pos (by omega)]
  by_cases h : i < a.length
  · rw [List.getElem?_append_left h, List.getElem?_eq_getElem h]; rfl
  · have : i = a.length := by omega
    subst this
    rw [List.getElem?_append_right (by omega)]; simp
theorem upRow_set (q M N : Nat) (a : List Nat) (j : Nat) (hj : j + 1 ≤ a.length) : (upRow q M N a (j + 1)).set (q + (j + 1)) ((a[j + 1]?.getD 0 * M) % LB + a[j]?.getD 0 / N) = upRow q M N a j := by
  have hs := shlL_at M N a 0 (j + 1) hj
  simp only [Nat.add_sub_cancel, Nat.succ_ne_zero, if_false] at hs
  obtain ⟨hk, hv⟩ := List.getElem?_eq_some_iff.1 hs
  unfold upRow
  rw [List.set_append, if_neg (by simp), List.length_replicate, Nat.add_sub_cancel_left, List.set_append, if_pos (by simp; omega)]
  congr 1
  have h1 : j + 1 < (a ++ [0]).length := by simp; omega
  rw [take_snoc' (a ++ [0]) (j + 1) _ (List.getElem?_eq_getElem h1), List.set_append, if_neg (by simp; omega)]
  have h2 : ((a ++ [0]).take (j + 1)).length = j + 1 := by rw [List.length_take]; omega
  rw [h2, Nat.sub_self, List.set_cons_zero, List.append_assoc]
  congr 1
  rw [List.drop_eq_getElem_cons hk, hv]; rfl
theorem upRow_last (q M N : Nat) (a : List Nat) : (upRow q M N a 0).set (q + 0) ((a[0]?.getD 0 * M) % LB) = List.replicate q 0 ++ shlL M N 0 a := by
  have hs := shlL_at M N a 0 0 (Nat.zero_le _)
  simp only [if_true, Nat.add_zero] at hs
  unfold upRow
  rw [List.set_append, if_neg (by simp), List.length_replicate, Nat.add_sub_cancel_left]
  congr 1
  cases hl : shlL M N 0 a with
  | nil => rw [hl] at hs; simp at hs
  | cons z r =>
    rw [hl] at hs
    simp only [List.getElem?_cons_zero, Option.some.injEq] at hs
    cases a with
    | nil => simp [hs]
    | cons y t => simp [hs]
theorem upRow_first (q M N : Nat) (a : List Nat) : splice (List.replicate (q + a.length + 1) 0) q a = upRow q M N a a.length := by
  have e : (shlL M N 0 a).drop (a.length + 1) = [] := List.drop_eq_nil_of_le (by rw [shlL_len]; exact Nat.le_refl _)
  unfold splice upRow
  rw [List.take_of_length_le (l := a ++ [0]) (by simp), e, List.append_nil, List.take_replicate, List.drop_replicate, Nat.min_eq_left (by omega), show q + a.length + 1 - (q + a.length) = 1 by omega]
  rfl

def SuRel (w : World) (g q M N : Nat) (a : List Nat) (i : Value) (wr : World) : Prop :=
  ∃ j : Nat, j ≤ a.length ∧ i = .int .i64 ((q + j : Nat) : Int) ∧ Row wr g (upRow q M N a j) ∧ Below w.heap.size w wr

theorem upRow_ok {q s : Nat} (hs : s < 32) {a : List Nat} (h : okL a) (j : Nat) : okL (upRow q (2 ^ s) (2 ^ (32 - s)) a j) := by
  unfold upRow
  rw [okL_append, okL_append]
  refine ⟨okL_zero q, okL_take (by rw [okL_append]; exact ⟨h, by intro z hz; rw [List.mem_singleton.1 hz]; exact LB_pos⟩) _, okL_drop (shlL_ok (Nat.two_pow_pos _) (Nat.two_pow_pos _) (LB_two_pow (by omega)) h (Nat.two_pow_pos _)) _⟩

set_option maxRecDepth 100000 in
set_option maxHeartbeats 4000000 in
theorem shiftUp_any (va : Value) (m n : Nat) (w : World) (ha : Num w w.heap.size va m) (hn : n ≤ 100000000) (hla : (dg m).length ≤ 100000000) :
    Calls Tryz.prog 93 #[va, .int .i64 (n : Int)] w (NumPost w (m * 2 ^ n)) := by
  have hz := isZero_any va m w _ ha
  obtain ⟨A, capa, rfl, hcapa⟩ := ha.form
  by_cases h0 : m = 0
  · subst h0
    rw [Nat.zero_mul]
    have HZ := Lib.hid hz
    clear hz ha hla hcapa
    generalize (dg 0).length = k at *
    go_enter Tryz.func93, Tryz.ntmps93
    go_wp2_with (go_at_call 77; refine HZ.out.mono ?_; rintro e w' ⟨rfl, rfl⟩)
    go_ret
    exact ⟨_, rfl, Num.zero _ _, Below.refl _ _⟩
  obtain ⟨q, s, hs, hq, e1, e2, hq1⟩ : ∃ q s : Nat, s < 32 ∧ n = 32 * q + s ∧ (n : Int) / 32 = (q : Int) ∧ (n : Int) % 32 = (s : Int) ∧ q ≤ 100000000 := ⟨n / 32, n % 32, by omega, by omega, by omega, by omega, by omega⟩
  have hA : Lim w w.heap.size (.slice A (dg m).length capa) (dg m) := ha
  have hval : m * 2 ^ n = LB ^ q * (2 ^ s * val (dg m)) := by rw [val_dg, hq, two_pow_split, Nat.mul_comm (2 ^ s), ← Nat.mul_assoc, ← Nat.mul_assoc, Nat.mul_comm m]
  have hpos : 0 < (dg m).length := List.length_pos_iff.2 (fun e => h0 (dg_nil.1 e))
  have E1 := Lib.hid e1
  have E2 := Lib.hid e2
  have hnn : (0 : Int) ≤ (n : Int) := Int.natCast_nonneg _
  rw [decide_eq_false h0] at hz
  have HZ := Lib.hid hz
  rw [hval]
  clear e1 e2 hval hq ha hz h0
  generalize dg m = a at *
  obtain ⟨N, hN, hN'⟩ : ∃ N, N ≤ q + a.length + 1 ∧ q + a.length + 1 ≤ N := ⟨_, Nat.le_refl _, Nat.le_refl _⟩
  have hNe : N = q + a.length + 1 := by omega
  have hmk := fun W => mkI ((q : Int) + (a.length : Int) + 1) N (by omega) (by omega) W
  have hb0 : Below w.heap.size w (w.alloc (.cells (zeros N).toArray 64)) := (Below.refl _ _).alloc (Nat.le_refl _) _
  obtain ⟨w1, hcp, hr1, hg1, hz1⟩ := copyV (w.alloc (.cells (zeros N).toArray 64)) A w.heap.size q (N - q) (N - q) a.length capa w.heap.size (List.replicate N 0) a (Row.new w _) rfl (hA.below hb0) (by omega) (by simp; omega)
  rw [hNe, upRow_first q (2 ^ s) (2 ^ (32 - s))] at hr1
  have hb1 := below_grown hb0 hg1 (Nat.le_refl _)
  have HR := Lib.hid hr1
  have HO := Lib.hid hA.2
  have HB1 := Lib.hid hb1
  have HNE := Lib.hid hNe
  have hqN : q < N := by omega
  clear hA hr1 hg1 hb0 hb1 hNe
  go_enter Tryz.func93, Tryz.ntmps93
  go_upto_region 4 with (go_at_call 77; refine HZ.out.mono ?_; rintro e w' ⟨rfl, rfl⟩)
  rw [E1.out, E2.out]
  go_wp2
  go_loopw [8] (fun i wr => SuRel w w.heap.size q (2 ^ s) (2 ^ (32 - s)) a i wr) (fun i _ => (intOf i).toNat)
  case atStart => exact ⟨a.length, Nat.le_refl _, by congr 1; omega, HR.out, HB1.out⟩
  case round =>
    obtain ⟨j, hj, rfl, hrow, hb⟩ := hrel
    by_cases hj0 : 0 < j
    · obtain ⟨j, rfl⟩ : ∃ i, j = i + 1 := ⟨j - 1, by omega⟩
      obtain ⟨I, hI⟩ : ∃ I, I = q + j := ⟨_, rfl⟩
      have hI2 : q + (j + 1) = I + 1 := by omega
      obtain ⟨x, hx⟩ : ∃ x, x = a[j + 1]?.getD 0 := ⟨_, rfl⟩
      obtain ⟨y, hy⟩ : ∃ y, y = a[j]?.getD 0 := ⟨_, rfl⟩
      have c0 := hrow.cell (upRow_at q (2 ^ s) (2 ^ (32 - s)) a (j + 1) (j + 1) (Nat.le_refl _) hj)
      have c1 := hrow.cell (upRow_at q (2 ^ s) (2 ^ (32 - s)) a (j + 1) j (by omega) hj)
      have hset := upRow_set q (2 ^ s) (2 ^ (32 - s)) a j hj
      rw [← hx, ← hy, hI2] at hset
      rw [← hx, hI2] at c0
      rw [← hy, ← hI] at c1
      have hy1 : y < 4294967296 := by
        rw [hy]
        cases h : a[j]? with
        | none => simp
        | some z => exact Lim.lt HO.out h
      have hx1 : x < 4294967296 := by
        rw [hx]
        cases h : a[j + 1]? with
        | none => simp
        | some z => exact Lim.lt HO.out h
      have HSET := Lib.hid hset
      have HII := Lib.hid hI
      have hqI : q ≤ I := by omega
      have hIN : I + 1 < N := by omega
      have hj2 : j ≤ a.length := by omega
      rw [hI2]
      have i1 : (0 : Int) ≤ (I : Int) + 1 := by omega
      have i2 : (I : Int) + 1 < (N : Int) := by omega
      have i3 : ((I : Int) + 1).toNat = I + 1 := by omega
      have i4 : IntKind.i64.wrap (I : Int) = (I : Int) := IntWalk.i64_in _ (by omega)
      have i6 : (I : Int) < (N : Int) := by omega
      have i7 : IntKind.i64.wrap (32 - (s : Int)) = 32 - (s : Int) := IntWalk.i64_in _ (by omega)
      have i8 : (0 : Int) ≤ (I : Int) := by omega
      clear hx hy hset hI hI2
      go_wp2
      go_still_tail 18, (by kernel_rfl)
      change wpList _ _ _ _ _ wr.drew
      have hrow2 : Row wr.drew w.heap.size (upRow q (2 ^ s) (2 ^ (32 - s)) a (j + 1)) := hrow
      have hb2 : Below w.heap.size w wr.drew := hb.drew
      have f2 := hrow2.frozen (I + 1)
      have d0 : wr.drew.cell? ⟨w.heap.size, I + 1, none⟩ = some (.int .u32 (x : Int)) := c0
      have h3 := hrow2.set (I + 1) (x * 2 ^ s % LB + y / 2 ^ (32 - s))
      rw [HSET.out] at h3
      have H3 := Lib.hid h3
      have HB2 := Lib.hid hb2
      clear c0 c1 hrow hb hrow2 hb2 h3
      generalize wr.drew = w2 at *
      go_wp2
      rw [or_join2 hy1 hs]
      have h4 : Below w.heap.size w (w2.setCell ⟨w.heap.size, I + 1, none⟩ (.int .u32 ((x * 2 ^ s % LB + y / 2 ^ (32 - s) : Nat) : Int))) := HB2.out.setCell (p := ⟨w.heap.size, I + 1, none⟩) (Nat.le_refl _) _
      first
        | exact ⟨⟨j, hj2, by rw [HII.out], H3.out, h4⟩, by simp [intOf]⟩
        | (go_roundw
           case rel => exact ⟨j, hj2, by rw [HII.out], H3.out, h4⟩
           case measure => simp [intOf])
    · obtain rfl : j = 0 := by omega
      have c0 := hrow.cell (upRow_at q (2 ^ s) (2 ^ (32 - s)) a 0 0 (Nat.le_refl _) (Nat.zero_le _))
      have hset := upRow_last q (2 ^ s) (2 ^ (32 - s)) a
      obtain ⟨x, hx⟩ : ∃ x, x = a[0]?.getD 0 := ⟨_, rfl⟩
      have hx1 : x < 4294967296 := by
        rw [hx]
        cases h : a[0]? with
        | none => simp
        | some z => exact Lim.lt HO.out h
      rw [← hx] at c0 hset
      have f0 := hrow.frozen q
      have h3 := hrow.set (q + 0) (x * 2 ^ s % LB)
      rw [hset, Nat.add_zero] at h3
      rw [Nat.add_zero] at c0
      have hM : 0 < 2 ^ s := Nat.two_pow_pos s
      have hN3 : 0 < 2 ^ (32 - s) := Nat.two_pow_pos _
      have hok : okL (List.replicate q 0 ++ shlL (2 ^ s) (2 ^ (32 - s)) 0 a) := by
        rw [okL_append]; exact ⟨okL_zero q, shlL_ok hM hN3 (LB_two_pow (by omega)) HO.out hM⟩
      have hlen : (List.replicate q 0 ++ shlL (2 ^ s) (2 ^ (32 - s)) 0 a).length = N := by
        rw [List.length_append, List.length_replicate, shlL_len, HNE.out]; omega
      have h4 := h3.whole hok N (by omega)
      rw [hlen] at h4
      have hval : val (List.replicate q 0 ++ shlL (2 ^ s) (2 ^ (32 - s)) 0 a) = LB ^ q * (2 ^ s * val a) := by
        rw [val_append, val_zero, List.length_replicate, val_shlL hM (LB_two_pow (k := s) (by omega)), Nat.zero_add, Nat.add_zero]
      have htr := trim_any _ _ _ h4 (by omega)
      rw [hval] at htr
      have hb4 : Below w.heap.size w (wr.setCell ⟨w.heap.size, q, none⟩ (.int .u32 ((x * 2 ^ s % LB : Nat) : Int))) := hb.setCell (p := ⟨w.heap.size, q, none⟩) (Nat.le_refl _) _
      have HTR := Lib.hid htr
      have HB4 := Lib.hid hb4
      have hqz : q + 0 = q := rfl
      clear hx hset h3 h4 hval htr hb4 hok hlen hrow hb
      simp only [Nat.add_zero]
      go_wp2_with (rw [shl_cast]; go_at_call 75; refine HTR.out.mono ?_; rintro e w3 ⟨v', rfl, hnum, rfl⟩)
      go_ret
      exact ⟨_, rfl, hnum, HB4.out⟩
end Go.Proofs.YtlababdfdjjjaaaGreatDoor
namespace Go.Proofs.YtlababdfdjjjaaaGreatDoor
open Go.RowKit

theorem or64_zero {x : Nat} (hx : x < 4294967296) : bits .or .u64 0 (x : Int) = (x : Int) := by
  have h := u64_or_nat 0 x (by omega) (by omega)
  rw [Nat.zero_or] at h; exact h
theorem or64_join {V x : Nat} (hV : V < 4294967296) (hx : x < 4294967296) : bits .or .u64 (V : Int) ((x : Int) * 4294967296) = ((V + LB * x : Nat) : Int) := by
  have e : (x : Int) * 4294967296 = ((x * 2 ^ 32 : Nat) : Int) := by rw [Int.natCast_mul]; rfl
  have h2 : (2 : Nat) ^ 32 = 4294967296 := rfl
  rw [e, u64_or_nat V (x * 2 ^ 32) (by omega) (by omega), Nat.or_comm, nat_join 32 _ _ (Nat.mul_mod_left _ _) (by omega), LB_eq]
  congr 1; omega
theorem or64_join' {V x : Nat} (hV : V < 4294967296) (hx : x < 4294967296) : bits .or .u64 ((x : Int) * 4294967296) (V : Int) = ((V + LB * x : Nat) : Int) := by
  have e : (x : Int) * 4294967296 = ((x * 2 ^ 32 : Nat) : Int) := by rw [Int.natCast_mul]; rfl
  have h2 : (2 : Nat) ^ 32 = 4294967296 := rfl
  rw [e, u64_or_nat (x * 2 ^ 32) V (by omega) (by omega), nat_join 32 _ _ (Nat.mul_mod_left _ _) (by omega), LB_eq]
  congr 1; omega

set_option maxRecDepth 100000 in
set_option maxHeartbeats 2000000 in
theorem word_any (va : Value) (m n : Nat) (w : World) (ha : Num w w.heap.size va m) (hn : n ≤ 100000000) (hla : (dg m).length ≤ 100000000) (h64 : m / 2 ^ n < 2 ^ 64) :
    Calls Tryz.prog 72 #[va, .int .i64 (n : Int)] w fun e w' => e = .returned (.int .u64 ((m / 2 ^ n : Nat) : Int)) ∧ Below w.heap.size w w' := by
  have hsd := shiftDown_any va m n w ha (by omega) hla
  have hv := val_dg (m / 2 ^ n)
  have ho := ok_dg (m / 2 ^ n)
  have hl : (dg (m / 2 ^ n)).length ≤ 2 := dg_le.2 (by rw [LBpow]; exact h64)
  have hsd' : ∃ l : List Nat, l = dg (m / 2 ^ n) := ⟨_, rfl⟩
  obtain ⟨l, hle⟩ := hsd'
  have hS : Calls Tryz.prog 91 #[va, .int .i64 (n : Int)] w fun e w' => ∃ v, e = .returned v ∧ Lim w' w'.heap.size v l ∧ Below w.heap.size w w' := by
    refine hsd.mono ?_
    rintro e w' ⟨v, h1, h2, h3⟩
    exact ⟨v, h1, by rw [hle]; exact h2, h3⟩
  rw [← hle] at hv ho hl
  rw [← hv]
  have HS := Lib.hid hS
  have HO := Lib.hid ho
  obtain ⟨A, capa, rfl, -⟩ := ha.form
  clear hsd hv ho hle hS ha h64 hla
  generalize (dg m).length = la at *
  go_enter Tryz.func72, Tryz.ntmps72
  go_wp2_with fail
  refine HS.out.mono ?_
  rintro e w1 ⟨v, rfl, hlim, hb1⟩
  obtain ⟨B, capb, rfl, -⟩ := hlim.form
  have HL := Lib.hid hlim
  clear hlim
  go_wp2_with fail
  go_loopw [5, 12] (fun v i wr => ∃ k : Nat, k ≤ l.length ∧ i = .int .i64 k ∧ v = .int .u64 (val (l.take k) : Nat) ∧ w1 = wr) (fun _ i _ => l.length - (intOf i).toNat)
  case atStart => exact ⟨0, Nat.zero_le _, rfl, rfl, rfl⟩
  case round =>
    obtain ⟨k, hk, rfl, rfl, rfl⟩ := hrel
    by_cases hlt : k < l.length
    · obtain ⟨x, hx⟩ : ∃ x, l[k]? = some x := ⟨l[k], List.getElem?_eq_getElem hlt⟩
      obtain ⟨g, o, rfl, hg, c0⟩ := HL.out.cell hx
      have hx1 := Lim.lt HO.out hx
      have htv := take_val hx
      have HTV := Lib.hid htv
      have hvl := val_lt (okL_take HO.out k)
      rw [List.length_take, Nat.min_eq_left hk] at hvl
      clear hx htv
      have hk2 : k = 0 ∨ k = 1 := by omega
      rcases hk2 with rfl | rfl
      · have hv0 : val (l.take 0) = 0 := rfl
        rw [hv0] at *
        simp only [Nat.add_zero] at c0
        go_wp2
        rw [or64_zero hx1]
        exact ⟨⟨1, by omega, rfl, by rw [HTV.out]; simp [val], trivial⟩, by simp [intOf]; omega⟩
      · generalize val (l.take 1) = V at *
        have hV : V < 4294967296 := by rw [Nat.pow_one, LB_eq] at hvl; exact hvl
        clear hvl
        go_wp2
        rw [or64_join hV hx1]
        exact ⟨⟨2, by omega, rfl, by rw [HTV.out, Nat.pow_one], trivial⟩, by simp [intOf]; omega⟩
    · obtain rfl : k = l.length := by omega
      rw [List.take_length]
      go_wp2
      go_ret
      exact ⟨rfl, hb1⟩
end Go.Proofs.YtlababdfdjjjaaaGreatDoor
