import Derived.Test.YtlababdfdjjjaaaGreatDoorN12
import Derived.RangeFuncNested
import Derived.RangeFuncBound
import Derived.RangeFuncCalls
import Derived.RangeFuncLeaves
import Derived.Shelf.Abstract
import Derived.Shelf.RegionOpen
import Derived.OwnWalkIn
import Derived.TacticsInMore
import Derived.LoopNIn
import Derived.LoopIn
import Derived.Sort.QuietIn
namespace Go.Proofs.YtlababdfdjjjaaaGreatDoor
open Go.RowKit Go.Shelf

attribute [local go_sem] Oper.semAt_some

set_option maxHeartbeats 1000000 in
theorem trim_at (A : Option Addr) (cap B : Nat) (l : List Nat) (w : World) (hv : Lim w B (.slice A l.length cap) l) (hlen : l.length ≤ 1000000000) :
    Calls Tryz.prog 75 #[.slice A l.length cap] w fun e w' => e = .returned (.slice A (dg (val l)).length cap) ∧ w = w' := by
  obtain ⟨A', cap', e0, hcap⟩ := hv.form
  cases e0
  have HV := Lib.hid hv
  clear hv
  go_enter Tryz.func75, Tryz.ntmps75
  go_wp2
  go_loop [3] (fun n => ∃ k : Nat, k ≤ l.length ∧ n = .int .i64 k ∧ val (l.take k) = val l) (fun n => (intOf n).toNat)
  case atStart => exact ⟨l.length, Nat.le_refl _, rfl, by rw [List.take_length]⟩
  case round =>
    obtain ⟨k, hk, rfl, hr⟩ := hrel
    have HR := Lib.hid hr
    clear hr
    by_cases hk0 : 0 < k
    · obtain ⟨x, hx⟩ : ∃ x, l[k - 1]? = some x := ⟨l[k - 1]'(by omega), List.getElem?_eq_getElem (by omega)⟩
      obtain ⟨g, o, rfl, hg, c0⟩ := HV.out.cell hx
      obtain ⟨j, rfl⟩ : ∃ j, k = j + 1 := ⟨k - 1, by omega⟩
      simp only [Nat.add_sub_cancel] at hx c0
      have HX := Lib.hid hx
      clear hx
      by_cases hx0 : x = 0
      · subst hx0
        go_wp2
        go_round
        case rel => exact ⟨j, by omega, by go_num, trim_step HX.out HR.out⟩
        case measure => simp [intOf]
      · have q1 : ((x : Int) == 0) = false := by simp [hx0]
        go_wp2
        go_ret
        have e := congrArg List.length (trim_dg_end HV.out.2 HR.out (.inr ⟨x, by simpa using HX.out, hx0⟩))
        rw [List.length_take, Nat.min_eq_left hk] at e
        exact ⟨by rw [← e]; rfl, rfl⟩
    · obtain rfl : k = 0 := by omega
      go_wp2
      go_ret
      have e := congrArg List.length (trim_dg_end HV.out.2 HR.out (.inl rfl))
      rw [List.length_take, Nat.min_eq_left hk] at e
      exact ⟨by rw [← e]; rfl, rfl⟩
/-- What is left of a number is a part of its limbs. -/
theorem take_dg {l : List Nat} (ho : okL l) : l.take (dg (val l)).length = dg (val l) := by
  have hk : (dg (val l)).length ≤ l.length := dg_le.2 (val_lt ho)
  refine val_inj (okL_take ho _) (ok_dg _) (by rw [List.length_take, Nat.min_eq_left hk]) ?_
  rw [val_take_mod ho, val_dg, Nat.mod_eq_of_lt (lt_dg _)]
theorem Lim.trimmed {w : World} {B cap : Nat} {A : Option Addr} {l : List Nat} (h : Lim w B (.slice A l.length cap) l) : Num w B (.slice A (dg (val l)).length cap) (val l) := by
  have := h.take (dg (val l)).length (dg_le.2 (val_lt h.2))
  rw [take_dg h.2] at this
  exact this

/-- What slices.Backward yields: the places below k, the last first. -/
def bk (L : List Nat) : (k : Nat) → k ≤ L.length → List (Fin L.length)
  | 0, _ => []
  | k + 1, h => ⟨k, h⟩ :: bk L k (Nat.le_of_succ_le h)
def encB (L : List Nat) (x : Fin L.length) : Array Value := #[.int .i64 (x.1 : Int), .int .u32 ((L[x.1] : Nat) : Int)]
def KpB (n₀ Bn : Nat) (W W' : World) : Prop := Below n₀ W W' ∧ W'.heap[Bn]? = W.heap[Bn]?
theorem KpB.trans {n₀ Bn : Nat} {A B C : World} (h : KpB n₀ Bn A B) (k : KpB n₀ Bn B C) : KpB n₀ Bn A C := ⟨h.1.trans k.1, k.2.trans h.2⟩
/-- A block of one cell. -/
def One (W : World) (g : Nat) (t : TypeId) (v : Value) : Prop := W.heap[g]? = some (.cells #[v] t (0, 0))
theorem One.cell {W : World} {g : Nat} {t : TypeId} {v : Value} (h : One W g t v) : W.cell? ⟨g, 0, none⟩ = some v := by
  rw [Go.Joins.cell_of_block h 0]; rfl
theorem One.frozen {W : World} {g : Nat} {t : TypeId} {v : Value} (h : One W g t v) : W.frozen? ⟨g, 0, none⟩ = false := by
  have e : W.heap[g]? = some (.cells #[v] t (0, 0)) := h
  simp [World.frozen?, e]
theorem One.keep {W W' : World} {n₀ Bn : Nat} {t : TypeId} {v : Value} (h : One W Bn t v) (hk : KpB n₀ Bn W W') : One W' Bn t v := hk.2.trans h

def BkRel (n₀ Bn : Nat) (t : TypeId) (va : Value) (L : List Nat) (J : List (Fin L.length) → World → Prop) (iv : Value) (wr : World) : Prop :=
  ∃ (k : Nat) (pre : List (Fin L.length)) (hk : k ≤ L.length), ((k = 0 ∧ iv = .int .i64 (-1)) ∨ ∃ j, k = j + 1 ∧ iv = .int .i64 (j : Int)) ∧ bk L L.length (Nat.le_refl _) = pre ++ bk L k hk ∧ J pre wr ∧ One wr Bn t va ∧ Lim wr n₀ va L

set_option maxRecDepth 100000 in
set_option maxHeartbeats 2000000 in
theorem back1_in (n : Nat) (hn : 1 ≤ n) (l Bn n₀ : Nat) (L : List Nat) (va : Value) (hlen : L.length ≤ 1000000000) (J Jx : List (Fin L.length) → World → Prop)
    (hY : ∀ pre x W, J pre W → pre.length < (bk L L.length (Nat.le_refl _)).length → YieldAt Fence.wide (n - 1) Tryz.prog l (encB L x) W fun e W' =>
      (e = .returned (.bool true) ∧ J (pre ++ [x]) W' ∧ KpB n₀ Bn W W') ∨ (e = .returned (.bool false) ∧ Jx (pre ++ [x]) W'))
    (W : World) (hBn : One W Bn 24 va) (hL : Lim W n₀ va L) (h0 : J [] W) :
    CallsIn Fence.wide n Tryz.prog 136 #[.func (.yield l) #[] #[], .pointer (some ⟨Bn, 0, none⟩)] W fun e W' => (∃ v, e = .returned v) ∧
      ((∃ ys, ys = bk L L.length (Nat.le_refl _) ∧ J ys W') ∨ (∃ pre, pre <+: bk L L.length (Nat.le_refl _) ∧ Jx pre W')) := by
  obtain ⟨A, cap, rfl, hcap⟩ := hL.form
  have c0 := hBn.cell
  refine callsIn_of_wp Tryz.func136 rfl trivial ?_ rfl
  simp only [Tryz.ntmps136, List.size_toArray, List.length_cons, List.length_nil, Nat.reduceAdd, Nat.reduceSub, Array.replicate_succ, Array.replicate_zero, List.push_toArray, List.append_toArray, List.nil_append, List.cons_append]
  gi_wp2
  gi_loopw [3] (fun iv wr => BkRel n₀ Bn 24 (.slice A L.length cap) L J iv wr) (fun iv _ => mI iv)
  case atStart =>
    refine ⟨L.length, [], Nat.le_refl _, ?_, rfl, h0, hBn, hL⟩
    rcases Nat.eq_zero_or_pos L.length with h | h
    · left; exact ⟨h, by rw [h]; rfl⟩
    · right; exact ⟨L.length - 1, by omega, by congr 1; omega⟩
  case round =>
    obtain ⟨k, pre, hk, hcase, hi, hj, hb, hl⟩ := hrel
    rcases hcase with ⟨rfl, rfl⟩ | ⟨j, rfl, rfl⟩
    · have HI := Lib.hid (show bk L L.length (Nat.le_refl _) = pre by rw [hi]; simp [bk])
      clear hi
      gi_wp2
      go_end0
      exact ⟨⟨_, rfl⟩, .inl ⟨pre, HI.out.symm, hj⟩⟩
    · obtain ⟨x, hxx⟩ : ∃ x, x = L[j]'hk := ⟨_, rfl⟩
      have hx : L[j]? = some x := by rw [hxx]; exact List.getElem?_eq_getElem hk
      have hbk : bk L (j + 1) hk = ⟨j, hk⟩ :: bk L j (Nat.le_of_succ_le hk) := rfl
      rw [hbk] at hi
      obtain ⟨g, o, rfl, hg, d0⟩ := hl.cell hx
      have c1 := hb.cell
      obtain ⟨fn, tmps, assign, body, hy, hR⟩ := hY pre ⟨j, hk⟩ wr hj (by rw [hi]; simp)
      simp only [encB] at hy
      rw [← hxx] at hy
      have HI := Lib.hid hi
      have HX := Lib.hid hx
      have hj1 : (j : Int) < (L.length : Int) := by omega
      clear hi hx hbk hxx
      gi_wp2
      refine hR.mono ?_
      rintro e W3 (⟨rfl, hJ3, hk3⟩ | ⟨rfl, hJx3⟩)
      · gi_wp2
        go_roundw
        case rel =>
          refine ⟨j, pre ++ [⟨j, hk⟩], by omega, ?_, by rw [HI.out]; simp, hJ3, hb.keep hk3, hl.below hk3.1⟩
          rcases Nat.eq_zero_or_pos j with h | h
          · left; exact ⟨h, by rw [h]; rfl⟩
          · right; exact ⟨j - 1, by omega, by congr 1; omega⟩
        case measure => simp [mI]
      · gi_wp2
        refine bodyPost_ret (results_none rfl _ _ _) rfl ?_
        exact ⟨⟨_, rfl⟩, .inr ⟨pre ++ [⟨j, hk⟩], ⟨bk L j (Nat.le_of_succ_le hk), by rw [HI.out]; simp⟩, hJx3⟩⟩

theorem back_in (n : Nat) (v : Value) (hv : ∃ A k c, v = .slice A k c) (w : World) :
    CallsIn Fence.wide n Tryz.prog 114 #[v] w fun e w' => e = .returned (.func (.func 136) #[] #[.pointer (some ⟨w.heap.size, 0, none⟩)]) ∧ w' = w.alloc (.cells #[v] 24) := by
  obtain ⟨A, k, c, rfl⟩ := hv
  refine callsIn_of_wp Tryz.func114 rfl trivial ?_ rfl
  simp only [Tryz.ntmps114, List.size_toArray, List.length_cons, List.length_nil, Nat.reduceAdd, Nat.reduceSub, Array.replicate_succ, Array.replicate_zero, List.push_toArray, List.append_toArray, List.nil_append, List.cons_append]
  gi_wp2
  go_ret
  exact ⟨rfl, rfl⟩

theorem back_stops (n : Nat) (hn : 1 ≤ n) (Bn n₀ : Nat) (L : List Nat) (va : Value) (hlen : L.length ≤ 1000000000) (w : World) (hBl : Bn < w.heap.size) (hn0 : n₀ ≤ w.heap.size) (hBn : One w Bn 24 va) (hL : Lim w n₀ va L) :
    SeqStopsK Fence.wide n Tryz.prog 136 #[.pointer (some ⟨Bn, 0, none⟩)] (encB L) (KpB n₀ Bn) (fun ys => ys = bk L L.length (Nat.le_refl _)) (fun pre => pre <+: bk L L.length (Nat.le_refl _)) (bk L L.length (Nat.le_refl _)).length w :=
  fun l J Jx W hW _ _ hY h0 =>
    back1_in n hn l Bn n₀ L va hlen J Jx hY W ((hW.block Bn hBl).trans hBn) (hL.below (hW.mono hn0)) h0
end Go.Proofs.YtlababdfdjjjaaaGreatDoor
