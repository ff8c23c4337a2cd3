import Derived.Test.YtdncfignegagjaaDoorW11
import Derived.RangeFuncNested
import Derived.RangeFuncBound
import Derived.RangeFuncCalls
import Derived.RangeFuncLeaves
import Derived.Shelf.Abstract
import Derived.Shelf.RegionOpen
import Derived.OwnWalkIn
import Derived.TacticsInMore
import Derived.LoopNIn
import Derived.LoopIn
import Derived.Sort.QuietIn
namespace Go.Proofs.YtdncfignegagjaaDoor
open Go.RowKit Go.Shelf

attribute [local go_sem] Oper.semAt_some

theorem Tabs.lts {w : World} (h : Tabs w) : 0 < w.heap.size ∧ 1 < w.heap.size ∧ 2 < w.heap.size ∧ 3 < w.heap.size ∧ 4 < w.heap.size ∧ 5 < w.heap.size := by
  have c0 := h.names 0 (by omega)
  have c1 := h.semis 0 (by omega)
  obtain ⟨_, c2⟩ := h.maxl
  obtain ⟨_, _, c3⟩ := h.esyn
  obtain ⟨_, _, c4⟩ := h.eran
  have c5 := h.pow.cell Tryd.gPow 0 (by rw [Lib.pow10Tab_length]; omega)
  exact ⟨World.block_lt_of_cell? _ _ c0, World.block_lt_of_cell? _ _ c1, World.block_lt_of_cell? _ _ c2, World.block_lt_of_cell? _ _ c3, World.block_lt_of_cell? _ _ c4, World.block_lt_of_cell? _ _ c5⟩
theorem Tabs.keep {w W W' : World} (h0 : Tabs w) (h : Tabs W) (hb : Below w.heap.size W W') : Tabs W' := by
  obtain ⟨l0, l1, l2, l3, l4, l5⟩ := h0.lts
  have hl := h.lts
  refine ⟨fun i hi => (hb.cell (p := ⟨_, i, none⟩) l0).trans (h.names i hi), fun i hi => (hb.cell (p := ⟨_, i, none⟩) l1).trans (h.semis i hi), ?_, ?_, ?_, ?_⟩
  · have hp := h.pow
    unfold Lib.TabIs World.var? at hp ⊢
    rw [Tryd.gPow] at hp ⊢
    simp only [Option.bind_some] at hp ⊢
    rw [hb.block _ l5]
    exact hp
  · obtain ⟨te, pe, he⟩ := h.esyn; exact ⟨te, pe, (hb.cell (p := ⟨_, 0, none⟩) l3).trans he⟩
  · obtain ⟨te, pe, he⟩ := h.eran; exact ⟨te, pe, (hb.cell (p := ⟨_, 0, none⟩) l4).trans he⟩
  · obtain ⟨m, he⟩ := h.maxl; exact ⟨m, (hb.cell (p := ⟨_, 0, none⟩) l2).trans he⟩
theorem grownBy_of_below {W W' : World} (h : Below W.heap.size W W') : W.grownBy W' none := ⟨h.os, h.tape, h.output, h.size, fun k hk _ => h.block k hk⟩

/-! The items that a line yields. -/
def itW : Nat → List UInt8 → List (Fld × Bool)
  | 0, _ => []
  | n + 1, l => ((readW (cutW l).1).1, decide ((readW (cutW l).1).2 = 0)) :: (if (readW (cutW l).1).2 ≠ 0 then [] else if (cutW l).2.2 then itW n (cutW l).2.1 else [])
def itemsW (l : List UInt8) : List (Fld × Bool) := if l = [] then [] else itW (l.length + 1) l

theorem cutW_le (l : List UInt8) : (cutW l).1.length ≤ l.length ∧ (cutW l).2.1.length ≤ l.length := by
  unfold cutW; split <;> simp <;> omega
theorem cutIdx_lt : ∀ (l : List UInt8) (q : Bool) (i : Nat), cutIdx q l = some i → i < l.length
  | [], _, _, h => by simp [cutIdx] at h
  | c :: r, q, i, h => by
    unfold cutIdx at h
    split at h
    · simp at h; subst h; simp
    · obtain ⟨j, hj, rfl⟩ := Option.map_eq_some_iff.1 h
      have := cutIdx_lt r _ j hj
      simp; omega
theorem cutW_lt {l : List UInt8} (h : (cutW l).2.2 = true) : (cutW l).2.1.length < l.length := by
  unfold cutW at h ⊢
  split at h
  · rename_i i hi
    have := cutIdx_lt l false i hi
    simp only; rw [List.length_drop]; omega
  · simp at h

def ItRel (line : List UInt8) (J : List (Fld × Bool) → World → Prop) (rv mv : Value) (wr : World) : Prop :=
  ∃ (pre todo : List (Fld × Bool)) (r : List UInt8) (m : Bool) (f : Nat), rv = .string ⟨r.toArray⟩ ∧ mv = .bool m ∧ itemsW line = pre ++ todo ∧
    todo = (if m then itW f r else []) ∧ (m = true → r.length < f) ∧ r.length ≤ 1000000 ∧ J pre wr ∧ Tabs wr

def strLen : Value → Nat | .string s => s.size | _ => 0
def mea : Value → Value → Nat | rv, .bool true => strLen rv + 1 | _, _ => 0
theorem itemsW_nil (l : List UInt8) : itemsW l = if (!l.isEmpty) = true then itW (l.length + 1) l else [] := by
  cases l <;> simp [itemsW]
set_option maxRecDepth 100000 in
set_option maxHeartbeats 2000000 in
theorem fields1_in (n : Nat) (hn : 1 ≤ n) (l Bn : Nat) (line : List UInt8) (hlen : line.length ≤ 1000000) (w0 : World) (hT0 : Tabs w0) (J Jx : List (Fld × Bool) → World → Prop)
    (hJ : ∀ pre W W', J pre W → Below W.heap.size W W' → J pre W')
    (hY : ∀ pre x W, J pre W → pre.length < (itemsW line).length → YieldAt Fence.wide (n - 1) Tryd.prog l #[fldV x.1, .bool x.2] W fun e W' =>
      (e = .returned (.bool true) ∧ J (pre ++ [x]) W' ∧ Below w0.heap.size W W') ∨ (e = .returned (.bool false) ∧ Jx (pre ++ [x]) W'))
    (W : World) (hT : Tabs W) (hBn : W.cell? ⟨Bn, 0, none⟩ = some (.string ⟨line.toArray⟩)) (h0 : J [] W) :
    CallsIn Fence.wide n Tryd.prog 79 #[.func (.yield l) #[] #[], .pointer (some ⟨Bn, 0, none⟩)] W fun e W' => (∃ v, e = .returned v) ∧
      ((∃ ys, ys = itemsW line ∧ J ys W') ∨ (∃ pre, pre <+: itemsW line ∧ Jx pre W')) := by
  refine callsIn_of_wp Tryd.func79 rfl trivial ?_ rfl
  simp only [Tryd.ntmps79, List.size_toArray, List.length_cons, List.length_nil, Nat.reduceAdd, Nat.reduceSub, Array.replicate_succ, Array.replicate_zero, List.push_toArray, List.append_toArray, List.nil_append, List.cons_append]
  have Hn := Lib.hid (itemsW_nil line)
  gi_wp2
  gi_quiet (fail)
  gi_wp2
  gi_loopw [3, 4] (fun rv mv wr => ItRel line J rv mv wr) (fun rv mv _ => mea rv mv)
  case atStart => exact ⟨[], _, line, !line.isEmpty, line.length + 1, rfl, rfl, rfl, Hn.out, (fun _ => by omega), hlen, hJ _ _ _ h0 (below_drewN W nq), hT.drewN nq⟩
  case round =>
    obtain ⟨pre, todo, r, m, f, rfl, rfl, hi, htodo, hrf, hrl, hj, ht⟩ := hrel
    cases m
    · have HI := Lib.hid (show itemsW line = pre by rw [hi, htodo]; simp)
      clear hi htodo
      gi_wp2
      go_end0
      exact ⟨⟨_, rfl⟩, .inl ⟨pre, HI.out.symm, hj⟩⟩
    · replace hrf := hrf rfl
      obtain ⟨f, rfl⟩ : ∃ f', f = f' + 1 := ⟨f - 1, by omega⟩
      simp only [if_true] at htodo
      have cc := fun w => cutField_any ⟨r.toArray⟩ w (by show r.length ≤ maxLen; unfold maxLen; omega)
      try simp only at cc
      have hcle := cutW_le r
      have hclt := @cutW_lt r
      unfold itW at htodo
      generalize hx : cutW r = x at *
      obtain ⟨a, b, m'⟩ := x
      simp only [cutV] at cc hcle hclt htodo
      have cr := fun w hT => readField_any ⟨a.toArray⟩ w hT (by show a.length ≤ _; omega)
      try simp only at cr
      generalize hy : readW a = y at *
      obtain ⟨⟨fq, ft⟩, er⟩ := y
      simp only [readV, fldV] at cr htodo
      have CC := Lib.hid cc
      have CR := Lib.hid cr
      have HI := Lib.hid hi
      have HTD := Lib.hid htodo
      clear cc cr hi htodo hx hy
      have hmono : ∀ {w1 w2 : World}, Below wr.heap.size wr w1 → Below w1.heap.size w1 w2 → Below wr.heap.size wr (w2.alloc (.cells #[.bool fq, .string ⟨ft.toArray⟩] 53)) := fun h1 h2 => (h1.trans (h2.mono h1.size)).alloc (Nat.le_trans h1.size h2.size) _
      by_cases her : er = 0
      · subst her
        have HT2 := Lib.hid (show todo = ((fq, ft), true) :: (if m' = true then itW f b else []) by rw [HTD.out]; simp)
        have HL := Lib.hid (show pre.length < (itemsW line).length by rw [HI.out, HT2.out]; simp)
        gi_wp2_with (first
          | (refine ⟨trivial, ?_⟩; gi_at_call 80; refine (callsIn_wide.2 (CC.out _)).mono ?_; rintro e w1 ⟨rfl, hb1⟩)
          | (refine ⟨trivial, ?_⟩; gi_at_call 81; refine (callsIn_wide.2 (CR.out _ (ht.below hb1))).mono ?_; rintro e w2 ⟨rfl, hb2⟩; obtain ⟨fn, tmps, assign, body, hy, hR⟩ := hY pre ((fq, ft), true) (w2.alloc (.cells #[.bool fq, .string ⟨ft.toArray⟩] 53)) (hJ _ _ _ hj (hmono hb1 hb2)) HL.out; simp only [fldV] at hy))
        have htw := ht.below (hmono hb1 hb2)
        refine hR.mono ?_
        rintro e W3 (⟨rfl, hJ3, hk3⟩ | ⟨rfl, hJx3⟩)
        · gi_wp2
          go_roundw
          case rel =>
            exact ⟨pre ++ [((fq, ft), true)], _, b, m', f, rfl, rfl, by rw [HI.out, HT2.out]; simp, rfl, (fun e => by have := hclt e; omega), by omega, hJ3, hT0.keep htw hk3⟩
          case measure =>
            cases m'
            · simp [mea]
            · have := hclt rfl
              show b.length + 1 < r.length + 1
              omega
        · gi_wp2
          refine bodyPost_ret (results_none rfl _ _ _) rfl ?_
          exact ⟨⟨_, rfl⟩, .inr ⟨pre ++ [((fq, ft), true)], ⟨_, by rw [HI.out, HT2.out]; simp; rfl⟩, hJx3⟩⟩
      · have HT2 := Lib.hid (show todo = [((fq, ft), false)] by rw [HTD.out]; simp [her])
        have HL := Lib.hid (show pre.length < (itemsW line).length by rw [HI.out, HT2.out]; simp)
        have q1 : (er == 0) = false := by simp [her]
        have q2 : (er != 0) = true := by simp [her]
        have Her := Lib.hid her
        clear her
        gi_wp2_with (first
          | (refine ⟨trivial, ?_⟩; gi_at_call 80; refine (callsIn_wide.2 (CC.out _)).mono ?_; rintro e w1 ⟨rfl, hb1⟩)
          | (refine ⟨trivial, ?_⟩; gi_at_call 81; refine (callsIn_wide.2 (CR.out _ (ht.below hb1))).mono ?_; rintro e w2 ⟨rfl, hb2⟩; obtain ⟨fn, tmps, assign, body, hy, hR⟩ := hY pre ((fq, ft), false) (w2.alloc (.cells #[.bool fq, .string ⟨ft.toArray⟩] 53)) (hJ _ _ _ hj (hmono hb1 hb2)) HL.out; simp only [fldV] at hy))
        refine hR.mono ?_
        rintro e W3 (⟨rfl, hJ3, hk3⟩ | ⟨rfl, hJx3⟩)
        · gi_wp2
          refine bodyPost_ret (results_none rfl _ _ _) rfl ?_
          exact ⟨⟨_, rfl⟩, .inl ⟨pre ++ [((fq, ft), false)], by rw [HI.out, HT2.out], hJ3⟩⟩
        · gi_wp2
          refine bodyPost_ret (results_none rfl _ _ _) rfl ?_
          exact ⟨⟨_, rfl⟩, .inr ⟨pre ++ [((fq, ft), false)], ⟨[], by rw [HI.out, HT2.out]; simp⟩, hJx3⟩⟩
end Go.Proofs.YtdncfignegagjaaDoor
