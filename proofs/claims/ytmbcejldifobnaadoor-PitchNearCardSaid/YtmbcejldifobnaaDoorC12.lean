import Init.Data.Nat.Bitwise
import Derived.Test.YtmbcejldifobnaaDoorRows
import Derived.Test.YtmbcejldifobnaaDoorC01
import Derived.Shelf.Small.Bits
import Derived.Test.YtmbcejldifobnaaDoorProg
import Derived.WalkKit
import Derived.WalkSpells
import Derived.WalkLawsBesides
import Derived.OpenShut
import Derived.Lib.Hide
import Derived.Lib.SmallJoins
import Derived.BigQuiet
import Derived.Deep.QuietTactic
import Derived.Deep.RegionHeld3
import Derived.Deep.Draws
import Derived.IntWalk
import Derived.OrdersHeld
import Derived.Deep.RegionHeld
import Derived.Test.YtmbcejldifobnaaDoorC08
import Derived.Deep.MidRow
import Derived.LoopN
import Derived.Scope
import Derived.Test.YtmbcejldifobnaaDoorC10
namespace Go.Proofs.YtmbcejldifobnaaDoor.Sp
structure DigIn (y y1 y0 U u : Nat) : Prop where
  hy : y = y1 * 4294967296 + y0
  h0 : y0 < 4294967296
  h1 : 2147483648 ≤ y1
  h2 : y1 < 4294967296
  hU : U < y
  hu : u < 4294967296
structure Dig (y y1 y0 U u q r : Nat) : Prop where
  sum : q * y1 + r = U
  le : (U * 4294967296 + u) / y ≤ q
  hr : r < 4294967296
  hq : q ≤ 4294967297
theorem DigIn.pos {y y1 y0 U u : Nat} (h : DigIn y y1 y0 U u) : 0 < y := by obtain ⟨a, b, c, d, e, f⟩ := h; omega
theorem DigIn.lt {y y1 y0 U u : Nat} (h : DigIn y y1 y0 U u) : (U * 4294967296 + u) / y < 4294967296 := by
  rw [Nat.div_lt_iff_lt_mul h.pos]
  obtain ⟨a, b, c, d, e, f⟩ := h
  omega
theorem Dig.start {y y1 y0 U u : Nat} (h : DigIn y y1 y0 U u) : Dig y y1 y0 U u (U / y1) (U % y1) := by
  have hp := h.pos
  obtain ⟨a, b, c, d, e, f⟩ := h
  refine ⟨by rw [Nat.mul_comm]; exact Nat.div_add_mod _ _, ?_, Nat.lt_trans (Nat.mod_lt _ (by omega)) d, ?_⟩
  · rw [Nat.le_div_iff_mul_le (by omega)]
    have h1 : (U * 4294967296 + u) / y * y ≤ U * 4294967296 + u := Nat.div_mul_le_self _ _
    generalize (U * 4294967296 + u) / y = T at *
    rw [a, Nat.mul_add, ← Nat.mul_assoc] at h1
    generalize T * y1 = A at *
    generalize T * y0 = B at *
    omega
  · have : U / y1 < 4294967298 := by
      rw [Nat.div_lt_iff_lt_mul (by omega)]
      omega
    omega
theorem dig_iff {y y1 y0 U u q r : Nat} (h : DigIn y y1 y0 U u) (hs : q * y1 + r = U) : q ≤ (U * 4294967296 + u) / y ↔ q * y0 ≤ 4294967296 * r + u := by
  rw [Nat.le_div_iff_mul_le h.pos, h.hy, Nat.mul_add, ← Nat.mul_assoc, ← hs]
  generalize q * y1 = A
  generalize q * y0 = B
  omega
theorem Dig.next {y y1 y0 U u q r : Nat} (h : DigIn y y1 y0 U u) (d : Dig y y1 y0 U u q r) (hc : 4294967296 ≤ q ∨ ¬ q * y0 ≤ 4294967296 * r + u) :
    1 ≤ q ∧ (q - 1) * y1 + (r + y1) = U ∧ (U * 4294967296 + u) / y ≤ q - 1 ∧ q - 1 ≤ 4294967296 := by
  have hT : (U * 4294967296 + u) / y < q := by
    rcases hc with hc | hc
    · exact Nat.lt_of_lt_of_le h.lt hc
    · exact Nat.lt_of_not_le (fun hh => hc ((dig_iff h d.sum).1 hh))
  have hq := d.hq
  have hs := d.sum
  generalize (U * 4294967296 + u) / y = T at *
  refine ⟨by omega, ?_, by omega, by omega⟩
  obtain ⟨k, rfl⟩ : ∃ k, q = k + 1 := ⟨q - 1, by omega⟩
  rw [Nat.add_mul, Nat.one_mul] at hs
  simp only [Nat.add_sub_cancel]
  omega
end Go.Proofs.YtmbcejldifobnaaDoor.Sp

namespace Go.Proofs.YtmbcejldifobnaaDoor.Sp
open Go.RowKit
theorem below_alloc (w : World) (o : Obj) : Below w.heap.size w (w.alloc o) := (Below.refl _ _).alloc (Nat.le_refl _) _

theorem below_drewN (W : World) (n : Nat) : Below W.heap.size W (W.drewN n) := by
  induction n with
  | zero => exact Below.refl _ _
  | succ n ih => exact ih.drew
end Go.Proofs.YtmbcejldifobnaaDoor.Sp

namespace Go.Proofs.YtmbcejldifobnaaDoor.Sp
open Go.RowKit
theorem Below.after {w W w' : World} (h : Below w.heap.size w W) (h' : Below W.heap.size W w') : Below w.heap.size w w' := h.trans (h'.mono h.size)
/-- A block of two cells that may be written. -/
structure Cell2 (w : World) (g : Nat) (x y : Value) : Prop where
  c0 : w.cell? ⟨g, 0, none⟩ = some x
  c1 : w.cell? ⟨g, 1, none⟩ = some y
  f0 : w.frozen? ⟨g, 0, none⟩ = false
  f1 : w.frozen? ⟨g, 1, none⟩ = false
  lt : g < w.heap.size
theorem Cell2.later {w w' : World} {g : Nat} {x y : Value} (h : Cell2 w g x y) (hb : Below w.heap.size w w') : Cell2 w' g x y where
  c0 := cell_later hb h.c0
  c1 := cell_later hb h.c1
  f0 := (hb.frozen (p := ⟨g, 0, none⟩) h.lt).trans h.f0
  f1 := (hb.frozen (p := ⟨g, 1, none⟩) h.lt).trans h.f1
  lt := Nat.lt_of_lt_of_le h.lt hb.size
theorem Cell2.alloc {w : World} {g : Nat} {x y : Value} (h : Cell2 w g x y) (o : Obj) : Cell2 (w.alloc o) g x y := h.later (below_alloc w o)
theorem Cell2.setOther {w : World} {g r : Nat} {x y : Value} (h : Cell2 w g x y) (hne : g ≠ r) (i : Nat) (u : Value) : Cell2 (w.setCell ⟨r, i, none⟩ u) g x y where
  c0 := by rw [World.cell?_setCell_other _ _ _ _ (by intro e; injection e with e; exact hne e.symm)]; exact h.c0
  c1 := by rw [World.cell?_setCell_other _ _ _ _ (by intro e; injection e with e; exact hne e.symm)]; exact h.c1
  f0 := by rw [World.frozen?_setCell]; exact h.f0
  f1 := by rw [World.frozen?_setCell]; exact h.f1
  lt := by simpa [World.setCell] using h.lt
theorem Cell2.set {w : World} {g : Nat} {x y : Value} (h : Cell2 w g x y) (u v : Value) : Cell2 ((w.setCell ⟨g, 0, none⟩ u).setCell ⟨g, 1, none⟩ v) g u v where
  c0 := by
    rw [World.cell?_setCell_other _ _ _ _ (by simp)]
    exact World.cell?_setCell_same _ _ _ h.c0
  c1 := World.cell?_setCell_same _ _ _ (by rw [World.cell?_setCell_other _ _ _ _ (by simp)]; exact h.c1)
  f0 := by rw [World.frozen?_setCell, World.frozen?_setCell]; exact h.f0
  f1 := by rw [World.frozen?_setCell, World.frozen?_setCell]; exact h.f1
  lt := by simpa [World.setCell] using h.lt

/-- A call's frame: what it has boxed stays, the block of its result may turn. -/
structure Fm (w : World) (K : List (Nat × Value × Value)) (r : Nat) (w' : World) : Prop where
  keep : ∀ t ∈ K, Cell2 w' t.1 t.2.1 t.2.2
  ne : ∀ t ∈ K, t.1 ≠ r
  res : ∃ p q, Cell2 w' r p q
  bl : Below w.heap.size w w'
  hr : w.heap.size ≤ r
theorem Fm.later {w w' w'' : World} {K : List (Nat × Value × Value)} {r : Nat} (h : Fm w K r w') (hb : Below w'.heap.size w' w'') : Fm w K r w'' :=
  ⟨fun t ht => (h.keep t ht).later hb, h.ne, let ⟨p, q, e⟩ := h.res; ⟨p, q, e.later hb⟩, Below.after h.bl hb, h.hr⟩
theorem Fm.drew {w w' : World} {K : List (Nat × Value × Value)} {r : Nat} (h : Fm w K r w') : Fm w K r w'.drew := h.later (below_drewN w' 1)
theorem Fm.alloc {w w' : World} {K : List (Nat × Value × Value)} {r : Nat} (h : Fm w K r w') (o : Obj) : Fm w K r (w'.alloc o) := h.later (below_alloc w' o)
theorem Fm.set {w w' : World} {K : List (Nat × Value × Value)} {r : Nat} (h : Fm w K r w') (u v : Value) : Fm w K r ((w'.setCell ⟨r, 0, none⟩ u).setCell ⟨r, 1, none⟩ v) :=
  ⟨fun t ht => ((h.keep t ht).setOther (h.ne t ht) 0 u).setOther (h.ne t ht) 1 v, h.ne, let ⟨_, _, e⟩ := h.res; ⟨u, v, e.set u v⟩, (h.bl.setCell (p := ⟨r, 0, none⟩) h.hr u).setCell (p := ⟨r, 1, none⟩) h.hr v, h.hr⟩
theorem Fm.k1 {w w' : World} {t : Nat × Value × Value} {g : Nat} {x y : Value} {K : List (Nat × Value × Value)} {r : Nat} (h : Fm w (t :: (g, x, y) :: K) r w') : Cell2 w' g x y := h.keep _ (List.mem_cons_of_mem _ List.mem_cons_self)
/-- A call's frame without a block for its result. -/
structure Km (w : World) (K : List (Nat × Value × Value)) (w' : World) : Prop where
  keep : ∀ t ∈ K, Cell2 w' t.1 t.2.1 t.2.2
  bl : Below w.heap.size w w'
theorem Km.later {w w' w'' : World} {K : List (Nat × Value × Value)} (h : Km w K w') (hb : Below w'.heap.size w' w'') : Km w K w'' := ⟨fun t ht => (h.keep t ht).later hb, Below.after h.bl hb⟩
theorem Km.drew {w w' : World} {K : List (Nat × Value × Value)} (h : Km w K w') : Km w K w'.drew := h.later (below_drewN w' 1)
theorem Km.k1 {w w' : World} {t : Nat × Value × Value} {g : Nat} {x y : Value} {K : List (Nat × Value × Value)} (h : Km w (t :: (g, x, y) :: K) w') : Cell2 w' g x y := h.keep _ (List.mem_cons_of_mem _ List.mem_cons_self)
end Go.Proofs.YtmbcejldifobnaaDoor.Sp

namespace Go.Proofs.YtmbcejldifobnaaDoor.Sp
open Go.RowKit
section
variable {P : Program} {ops : Array Oper} {Q : Exit → Act → World → Prop} {md : Region.Mode} {S : World → Prop}
def Ext (S : World → Prop) (w w' : World) : Prop := Below w.heap.size w w' ∧ S w'
theorem Ext.trans {w w' w'' : World} (h : Ext S w w') (h' : Ext S w' w'') : Ext S w w'' := ⟨Below.after h.1 h'.1, h'.2⟩
theorem Ext.refl {w : World} (h : S w) : Ext S w w := ⟨Below.refl _ _, h⟩

/-- Whatever order is picked, and whatever memory calls add between the operations. -/
def wpE (P : Program) (md : Region.Mode) (ops : Array Oper) (Q : Exit → Act → World → Prop) (S : World → Prop) : Nat → Array Bool → Act → World → Prop
  | 0, listed, a, w => ∀ w', Ext S w w' → (Region.ready md ops listed = [] ∧ Q .normal a w')
  | n + 1, listed, a, w => ∀ w', Ext S w w' → ((Region.ready md ops listed = [] → Q .normal a w') ∧
      ∀ i ∈ Region.ready md ops listed, wpOp P ops Q i (fun b u => S u ∧ wpE P md ops Q S n (listed.setIfInBounds i true) b u) a w')
theorem wpE_up {w w' : World} (hx : Ext S w w') : ∀ {n : Nat} {listed : Array Bool} {a : Act}, wpE P md ops Q S n listed a w → wpE P md ops Q S n listed a w'
  | 0, _, _, h => fun u hu => h u (hx.trans hu)
  | _ + 1, _, _, h => fun u hu => h u (hx.trans hu)
theorem held_of_E : ∀ (n : Nat) (listed : Array Bool) (a : Act) (w : World), S w → wpE P md ops Q S n listed a w → wpAnyH P md ops Q S n listed a w
  | 0, _, _, w, hS, h => h w (Ext.refl hS)
  | n + 1, _, _, w, hS, h => ⟨(h w (Ext.refl hS)).1, fun i hi => wpOp_mono (fun b u hb => ⟨hb.1, held_of_E n _ b u hb.1 hb.2⟩) ((h w (Ext.refl hS)).2 i hi)⟩

/-- The operation is a call that in every world that meets S returns v and adds memory; or it yields v there at once. -/
def CallsTo (P : Program) (ops : Array Oper) (S : World → Prop) (o : Oper) (v : Value) (a : Act) : Prop :=
  Region.wanted o (yielded ops a.tmps) = true ∧ ((∃ f args, (∀ w, (execOp a.eval o).run P w = .ok (.enter f args) w) ∧ ∀ w, S w → Calls P f args w fun e w' => e = .returned v ∧ Ext S w w') ∨ ∀ w, S w → (execOp a.eval o).run P w = .ok (.value v) w)
/-- Or its guard passes it over, and it leaves nothing. -/
def Takes (P : Program) (ops : Array Oper) (S : World → Prop) (o : Oper) (v : Value) (a : Act) : Prop := CallsTo P ops S o v a ∨ (Region.wanted o (yielded ops a.tmps) = false ∧ v = undef)
theorem Takes.same {o : Oper} {v : Value} {a b : Act} (h : Takes P ops S o v a) (he : execOp b.eval o = execOp a.eval o) (hw : Region.wanted o (yielded ops b.tmps) = Region.wanted o (yielded ops a.tmps)) : Takes P ops S o v b := by
  unfold Takes CallsTo at *
  rw [he, hw]
  exact h
theorem Takes.step {i : Nat} {o : Oper} {v : Value} {a : Act} {w : World} {K : Act → World → Prop} (hi : ops[i]? = some o) (h : Takes P ops S o v a) (hS : S w) (hK : ∀ u, Ext S w u → K (a.put o.dst v) u) : wpOp P ops Q i K a w := by
  rcases h with ⟨hw, h⟩ | ⟨hw, rfl⟩
  · unfold wpOp
    simp only [hi, hw, if_true]
    left
    unfold Oper.wp
    rcases h with ⟨f, args, he, hc⟩ | hv
    · rw [he w, Oper.upon_enter]
      refine (hc w hS).mono ?_
      rintro e u ⟨rfl, hu⟩
      exact hK u hu
    · rw [hv w hS, Oper.upon_value]
      exact hK w (Ext.refl hS)
  · unfold wpOp
    simp only [hi, hw, Bool.false_eq_true, if_false]
    exact hK w (Ext.refl hS)
/-- An operation that is apart from it does not see whether it has come up. -/
theorem step_past {j : Nat} {oi oj : Oper} {v : Value} (hj : ops[j]? = some oj) (hap : oi.apart ops oj = true) (hsi : ∀ cs b, oi.op ≠ .select cs b) (hsj : ∀ cs b, oj.op ≠ .select cs b)
    (hQ : ∀ c a w, Q (.panic c) (a.put oi.dst v) w → Q (.panic c) a w) {K : Act → World → Prop} {a : Act} {w : World} (hy : Takes P ops S oi v a)
    (h : wpOp P ops Q j K (a.put oi.dst v) w) : wpOp P ops Q j (fun b u => Takes P ops S oi v b ∧ K (b.put oi.dst v) u) a w := by
  obtain ⟨p1, p2, p3⟩ := Oper.apart_spec hap
  have stay : ∀ b : Act, Takes P ops S oi v b → ∀ u, Takes P ops S oi v (b.put oj.dst u) := fun b hb u => hb.same (execOp_put oi hsi b oj.dst u p3) (wanted_put oi b oj.dst u p3)
  have swap : ∀ (b : Act) (u : Value), (b.put oi.dst v).put oj.dst u = (b.put oj.dst u).put oi.dst v := fun b u => Act.put_comm b v u p2
  unfold wpOp at *
  simp only [hj] at *
  rw [wanted_put oj a oi.dst v p1] at h
  by_cases hwd : Region.wanted oj (yielded ops a.tmps) = true
  · rw [if_pos hwd] at h ⊢
    rcases h with h | ⟨h1, h2⟩
    · left
      unfold Oper.wp at *
      rw [execOp_put oj hsj a oi.dst v p1] at h
      generalize (execOp a.eval oj).run P w = res at *
      rcases res with ⟨nx, u⟩ | ⟨hl, u⟩
      · cases nx with
        | value z => rw [Oper.upon_value] at h ⊢; rw [swap] at h; exact ⟨stay a hy z, h⟩
        | skip => rw [Oper.upon_skip] at h ⊢; rw [swap] at h; exact ⟨stay a hy undef, h⟩
        | defer d =>
          rw [Oper.upon_defer] at h ⊢
          rw [Act.put_defers, swap] at h
          exact ⟨stay { a with defers := d :: a.defers } (hy.same rfl rfl) undef, h⟩
        | enter f args =>
          rw [Oper.upon_enter] at h ⊢
          refine Calls.mono h fun e t he => ?_
          cases e with
          | returned z => simp only at he ⊢; rw [swap] at he; exact ⟨stay a hy z, he⟩
          | panicked c => exact hQ _ _ _ he
          | outgrown => exact he
        | row r args =>
          rw [Oper.upon_row] at h ⊢
          exact Rows.mono h fun z t ht => by rw [swap] at ht; exact ⟨stay a hy z, ht⟩
        | _ => exact absurd h (by simp [Oper.upon])
      · cases hl with
        | panic z => rw [Oper.upon_panic] at h ⊢; exact hQ _ _ _ h
        | _ => exact absurd h (by simp [Oper.upon])
    · right
      refine ⟨?_, h2⟩
      unfold Oper.asks at *
      rwa [execOp_put oj hsj a oi.dst v p1] at h1
  · rw [if_neg hwd] at h ⊢
    rw [swap] at h
    exact ⟨stay a hy undef, h⟩

/-- **A call that only adds memory may come up first.** -/
theorem call_first {i : Nat} {oi : Oper} {v : Value} (hi : ops[i]? = some oi) (hsel : ∀ (j : Nat) (o : Oper) cs b, ops[j]? = some o → o.op ≠ .select cs b) (hQ : ∀ c a w, Q (.panic c) (a.put oi.dst v) w → Q (.panic c) a w) :
    ∀ (n : Nat) (listed : Array Bool) (a : Act) (w : World),
      (∀ j oj, ops[j]? = some oj → j ≠ i → listed.getD j true = false → (∀ e ∈ oj.after, Region.binds md e = true → e.on ≠ i) → oi.apart ops oj = true) →
      i ∈ Region.ready md ops listed → Takes P ops S oi v a →
      wpE P md ops Q S n (listed.setIfInBounds i true) (a.put oi.dst v) w → wpE P md ops Q S (n + 1) listed a w := by
  intro n
  induction n with
  | zero =>
    intro listed a w _ hr hy H u hu
    refine ⟨fun h => (by rw [h] at hr; cases hr), fun j hj => ?_⟩
    by_cases e : j = i
    · subst e
      exact hy.step hi hu.2 fun t ht => ⟨ht.2, wpE_up (hu.trans ht) H⟩
    · have h1 := ready_mono hj e
      rw [(H u hu).1] at h1
      cases h1
  | succ n ih =>
    intro listed a w hfree hr hy H u hu
    refine ⟨fun h => (by rw [h] at hr; cases hr), fun j hj => ?_⟩
    by_cases e : j = i
    · subst e
      exact hy.step hi hu.2 fun t ht => ⟨ht.2, wpE_up (hu.trans ht) H⟩
    · obtain ⟨hjun, oj, hoj, hall⟩ := mem_ready.1 hj
      have hnot : ∀ x ∈ oj.after, Region.binds md x = true → x.on ≠ i := by
        intro x hx hb heq
        have h1 := hall x hx hb
        have h0 := (mem_ready.1 hr).1
        rw [heq] at h1
        rcases Nat.lt_or_ge i listed.size with hl | hl
        · simp [hl] at h0 h1; rw [h0] at h1; cases h1
        · simp [Array.getElem?_eq_none hl] at h1
      have h1 := (H u hu).2 j (ready_mono hj e)
      have h2 := step_past hoj (hfree j oj hoj e hjun hnot) (fun cs b => hsel i oi cs b hi) (fun cs b => hsel j oj cs b hoj) hQ hy h1
      refine wpOp_mono (fun b t hb => ⟨hb.2.1, ih (listed.setIfInBounds j true) b t ?_ (ready_mono hr (Ne.symm e)) hb.1 ?_⟩) h2
      · intro k ok hk hki hun hno
        refine hfree k ok hk hki ?_ hno
        by_cases hjk : j = k
        · subst hjk; exact hjun
        · rw [getD_set_ne true hjk] at hun; exact hun
      · rw [Array.setIfInBounds_comm _ _ e]
        exact hb.2.2
theorem call_take {i : Nat} {oi : Oper} {v : Value} {n : Nat} {listed : Array Bool} {a : Act} {w : World} (hi : ops[i]? = some oi)
    (hs : Region.noSelect ops = true) (hf : Region.free md ops listed i = true) (hr : (Region.ready md ops listed).contains i = true)
    (hQ : ∀ c a w, Q (.panic c) (a.put oi.dst v) w → Q (.panic c) a w) (hy : CallsTo P ops S oi v a)
    (h : wpE P md ops Q S n (listed.setIfInBounds i true) (a.put oi.dst v) w) : wpE P md ops Q S (n + 1) listed a w :=
  call_first hi (Region.noSelect_spec hs) hQ n listed a w (Region.free_spec hi hf) (by simpa using hr) (.inl hy) h
theorem E_done {listed : Array Bool} {a : Act} {w : World} (hr : Region.ready md ops listed = []) (h : ∀ w', Ext S w w' → Q .normal a w') : ∀ n, wpE P md ops Q S n listed a w
  | 0 => fun u hu => ⟨hr, h u hu⟩
  | _ + 1 => fun u hu => ⟨fun _ => h u hu, fun j hj => by rw [hr] at hj; cases hj⟩
theorem E_start {id : Nat} {a : Act} {w : World} (hm : P.follows .mixedOrders = true) (hS : S w.drew) (h : wpE P .any ops Q S ops.size (Array.replicate ops.size false) a w.drew) : (Code.region id ops true).wp P Q a w :=
  wp_region_held_drew hm hS fun hS => held_of_E _ _ _ _ hS h
end
end Go.Proofs.YtmbcejldifobnaaDoor.Sp

namespace Go.Proofs.YtmbcejldifobnaaDoor
open Go.RowKit Tp
structure Boxw (p : Prop) : Prop where
  out : p
/-- What a call has made: blocks of its own, apart from each other, over what was there. -/
structure Loc (w0 : World) (rows : List (Nat × TypeId × List Value)) (w : World) : Prop where
  bel : Below w0.heap.size w0 w
  row : ∀ r ∈ rows, w0.heap.size ≤ r.1 ∧ RowV w r.1 r.2.1 r.2.2
  apart : rows.Pairwise (fun r s => r.1 ≠ s.1)
theorem Loc.start (w : World) : Loc w [] w := ⟨Below.refl _ _, (fun _ h => by cases h), List.Pairwise.nil⟩
theorem Loc.up {w0 w w' : World} {rows : List (Nat × TypeId × List Value)} (h : Loc w0 rows w) (hb : Below w.heap.size w w') : Loc w0 rows w' :=
  ⟨h.bel.trans (hb.mono h.bel.size), fun r hr => ⟨(h.row r hr).1, (h.row r hr).2.up hb⟩, h.apart⟩
theorem Loc.drew {w0 w : World} {rows : List (Nat × TypeId × List Value)} (h : Loc w0 rows w) : Loc w0 rows w.drew := h.up (Below.refl _ _).drew
theorem Loc.push {w0 w : World} {rows : List (Nat × TypeId × List Value)} {g : Nat} {ty : TypeId} {cs : List Value} {B : Nat} (h : Loc w0 rows w) (hr : RowV w g ty cs) (hB : B ≤ g) (h0 : w0.heap.size ≤ B) (hlt : ∀ r ∈ rows, r.1 < B) : Loc w0 ((g, ty, cs) :: rows) w :=
  ⟨h.bel, fun r hm => by
    rcases List.mem_cons.1 hm with rfl | hm
    · exact ⟨Nat.le_trans h0 hB, hr⟩
    · exact h.row r hm, List.Pairwise.cons (fun r hm => by have := hlt r hm; omega) h.apart⟩
theorem Loc.lt {w0 w : World} {rows : List (Nat × TypeId × List Value)} (h : Loc w0 rows w) : ∀ r ∈ rows, r.1 < w.heap.size := fun r hr => (h.row r hr).2.lt
theorem Loc.alloc {w0 w : World} {rows : List (Nat × TypeId × List Value)} (h : Loc w0 rows w) (ty : TypeId) (cs : List Value) : Loc w0 ((w.heap.size, ty, cs) :: rows) (w.alloc (.cells cs.toArray ty)) :=
  (h.up (belB w _)).push (RowV.of_alloc w ty cs) (Nat.le_refl _) h.bel.size h.lt
theorem Loc.get {w0 w : World} {rows : List (Nat × TypeId × List Value)} (h : Loc w0 rows w) {i g : Nat} {ty : TypeId} {cs : List Value} (hi : rows[i]? = some (g, ty, cs)) : RowV w g ty cs :=
  (h.row _ (List.mem_of_getElem? hi)).2
theorem Loc.forget {w0 w : World} {rows rows' : List (Nat × TypeId × List Value)} (h : Loc w0 rows w) (hs : rows'.Sublist rows) : Loc w0 rows' w :=
  ⟨h.bel, fun r hr => h.row r (hs.subset hr), h.apart.sublist hs⟩
theorem below_setCellsQ {B : Nat} {a : World} {g : Nat} (hg : B ≤ g) : ∀ (vs : List Value) (o : Nat) (w : World), Below B a w → Below B a (w.setCells g o vs)
  | [], _, _, h => h
  | v :: r, o, w, h => below_setCellsQ hg r (o + 1) _ (h.setCell (p := ⟨g, o, none⟩) hg v)
theorem Loc.store {w0 w : World} {rows : List (Nat × TypeId × List Value)} (h : Loc w0 rows w) {i g : Nat} {ty : TypeId} {cs : List Value} (hi : rows[i]? = some (g, ty, cs)) (o : Nat) (vs : List Value) (ho : o + vs.length ≤ cs.length) :
    Loc w0 (rows.set i (g, ty, cs.take o ++ vs ++ cs.drop (o + vs.length))) (w.setCells g o vs) := by
  have hm := List.mem_of_getElem? hi
  obtain ⟨hB, hR⟩ := h.row _ hm
  obtain ⟨hlt, hge⟩ := List.getElem?_eq_some_iff.1 hi
  refine ⟨below_setCellsQ hB vs o w h.bel, fun r hr => ?_, ?_⟩
  · rcases List.mem_iff_getElem?.1 hr with ⟨k, hk⟩
    rw [List.getElem?_set] at hk
    by_cases e : i = k
    · subst e
      rw [if_pos rfl, if_pos hlt] at hk
      cases hk
      exact ⟨hB, hR.setCells vs o w cs ho⟩
    · rw [if_neg e] at hk
      obtain ⟨h1, h2⟩ := h.row r (List.mem_of_getElem? hk)
      obtain ⟨klt, hke⟩ := List.getElem?_eq_some_iff.1 hk
      have hne : r.1 ≠ g := by
        have hp := List.pairwise_iff_getElem.1 h.apart
        rcases Nat.lt_or_gt_of_ne e with hik | hik
        · have := hp i k hlt klt hik
          rw [hge, hke] at this
          exact fun he => this he.symm
        · have := hp k i klt hlt hik
          rw [hge, hke] at this
          exact this
      exact ⟨h1, RowV.otherCells hne vs o w h2⟩
  · have hmap : ∀ (l : List (Nat × TypeId × List Value)), l.Pairwise (fun r s => r.1 ≠ s.1) ↔ (l.map Prod.fst).Pairwise (· ≠ ·) := fun l => by rw [List.pairwise_map]
    rw [hmap, List.map_set]
    have : (rows.map Prod.fst).set i g = rows.map Prod.fst := by
      apply List.ext_getElem?
      intro k
      rw [List.getElem?_set]
      by_cases e : i = k
      · subst e
        rw [if_pos rfl]
        simp [hlt, hge]
      · rw [if_neg e]
    show ((rows.map Prod.fst).set i g).Pairwise _
    rw [this, ← hmap]
    exact h.apart
theorem run_storeVar_cells {P : Program} (w : World) (b o : Nat) (ty : TypeId) (v : Value) (cells : List Value) (hv : v.cells = cells.toArray) (ht : w.there b o cells.length) (hi : (P.info? ty).map (·.size) = some cells.length) (h1 : cells.all (·.oneCell') = true) :
    (storeVar ty ⟨b, o, none⟩ v).run P w = .ok () (w.setCells b o cells) := by
  have := run_storeCells_cells (P := P) b o cells 0 w (fun j hj => by simpa using (ht j hj).1) (fun j hj => by simpa using (ht j hj).2)
    (fun v hv => (List.all_eq_true.1 h1) v hv)
  cases hq : P.info? ty with
  | none => simp [hq] at hi
  | some i =>
    have hs : cells.length = i.size := by simp [hq] at hi; omega
    simp only [Nat.add_zero] at this
    simp [storeVar, sizeOf, typeInfo, hq, hv, hs, this]

section
variable {P : Program} {ops : Array Oper} {rest : List Oper} {o : Oper} {a : Act} {w w0 : World} {Q : Exit → Act → World → Prop} {rows : List (Nat × TypeId × List Value)}
theorem aw_seq {x y : Code} (h : Boxw (x.wp P (Exit.then (y.wp P Q) Q) a w)) : Boxw ((Code.seq x y).wp P Q a w) := ⟨wp_seq h.out⟩
theorem aw_block {id : Nat} {c : Code} (h : Boxw (c.wp P (Exit.inBlock id Q) a w)) : Boxw ((Code.block id c).wp P Q a w) := ⟨wp_block h.out⟩
theorem aw_reg {id : Nat} (h : Boxw (wpList P ops Q ops.toList a w)) : Boxw ((Code.region id ops false).wp P Q a w) := ⟨wp_region_list h.out⟩
theorem aw_yes {c : Operand} {x y : Code} (hc : a.eval c = .bool true) (h : Boxw (x.wp P Q a w)) : Boxw ((Code.cond c x y).wp P Q a w) := ⟨wp_cond_true hc h.out⟩
theorem aw_no {c : Operand} {x y : Code} (hc : a.eval c = .bool false) (h : Boxw (y.wp P Q a w)) : Boxw ((Code.cond c x y).wp P Q a w) := ⟨wp_cond_false hc h.out⟩
theorem aw_pass (hw : Region.wanted o (yielded ops a.tmps) = false) (h : Boxw (wpList P ops Q rest (a.put o.dst undef) w)) : Boxw (wpList P ops Q (o :: rest) a w) := ⟨wpList_skip hw h.out⟩
theorem aw_val {v : Value} (v' : Value) (hw : Region.wanted o (yielded ops a.tmps) = true) (hr : (execOp a.eval o).run P w = .ok (.value v) w) (hv : v = v') (h : Boxw (wpList P ops Q rest (a.put o.dst v') w)) : Boxw (wpList P ops Q (o :: rest) a w) := by
  subst hv
  refine Boxw.mk ?_
  unfold wpList
  rw [if_pos hw]
  refine .inl ?_
  unfold Oper.wp
  rw [hr]
  exact h.out
theorem aw_fork (b : Bool) (hw : Region.wanted o (yielded ops a.tmps) = true) (hr : (execOp a.eval o).run P w = .ok (.value (.bool b)) w)
    (ht : b = true → Boxw (wpList P ops Q rest (a.put o.dst (.bool true)) w)) (hf : b = false → Boxw (wpList P ops Q rest (a.put o.dst (.bool false)) w)) : Boxw (wpList P ops Q (o :: rest) a w) := by
  cases b
  · exact aw_val _ hw hr rfl (hf rfl)
  · exact aw_val _ hw hr rfl (ht rfl)
theorem aw_new (ty : TypeId) (cs : List Value) (hl : Loc w0 rows w) (hw : Region.wanted o (yielded ops a.tmps) = true) (hr : (execOp a.eval o).run P w = .ok (.value (.pointer (some ⟨w.heap.size, 0, none⟩))) (w.alloc (.cells cs.toArray ty)))
    (h : ∀ g w', Loc w0 ((g, ty, cs) :: rows) w' → Boxw (wpList P ops Q rest (a.put o.dst (.pointer (some ⟨g, 0, none⟩))) w')) : Boxw (wpList P ops Q (o :: rest) a w) := by
  refine Boxw.mk ?_
  unfold wpList
  rw [if_pos hw]
  refine .inl ?_
  unfold Oper.wp
  rw [hr]
  exact (h _ _ (hl.alloc ty cs)).out
theorem run_loadS {ty : TypeId} {A : Addr} {v : Value} {d : TypeDesc} (hu : P.underlying ty = some d) (hd : d.isRow = false) (hc : w.cell? A = some v) : (loadVar ty A).run P w = .ok v w := by
  have hagg : (isAgg ty).run P w = .ok false w := by
    unfold isAgg
    rw [Sem.run_bind, run_underlying hu w]
    cases d <;> simp_all
  simp only [loadVar, Sem.run_bind, hagg, Result.andThen_ok, Bool.false_eq_true, if_false]
  go_simp
theorem run_loadOp {ty : TypeId} {x : Operand} {A : Addr} {v : Value} (ho : o.op = .load ty x) (hx : a.eval x = .pointer (some A)) (hl : (loadVar ty A).run P w = .ok v w) : (execOp a.eval o).run P w = .ok (.value v) w := by
  unfold execOp
  simp only [ho, hx, Instr.loadAt, Instr.sureAddr, Sem.run_bind, Sem.run_pure, Result.andThen_ok, hl]
/-- One cell is read. -/
theorem aw_load (ty : TypeId) (x : Operand) (i g k : Nat) (t0 : TypeId) (cs : List Value) (v : Value) (d : TypeDesc) (hl : Loc w0 rows w) (hw : Region.wanted o (yielded ops a.tmps) = true) (ho : o.op = .load ty x) (hx : a.eval x = .pointer (some ⟨g, k, none⟩))
    (hi : rows[i]? = some (g, t0, cs)) (hv : cs[k]? = some v) (hu : P.underlying ty = some d) (hd : d.isRow = false)
    (h : Boxw (wpList P ops Q rest (a.put o.dst v) w)) : Boxw (wpList P ops Q (o :: rest) a w) :=
  aw_val v hw (run_loadOp ho hx (run_loadS hu hd ((hl.get hi).cell hv))) rfl h
theorem row_range {g : Nat} {t0 : TypeId} {cs part : List Value} {k : Nat} (hr : RowV w g t0 cs) (hp : (cs.drop k).take part.length = part) : w.rangeAt g k part :=
  hr.range fun j v hj => by
    rw [← hp, List.getElem?_take] at hj
    split at hj
    · rwa [List.getElem?_drop] at hj
    · cases hj
/-- A whole struct or array is read. -/
theorem aw_mid (ty : TypeId) (x : Operand) (i g k : Nat) (t0 : TypeId) (cs part : List Value) (d : TypeDesc) (hl : Loc w0 rows w) (hw : Region.wanted o (yielded ops a.tmps) = true) (ho : o.op = .load ty x) (hx : a.eval x = .pointer (some ⟨g, k, none⟩))
    (hi : rows[i]? = some (g, t0, cs)) (hp : (cs.drop k).take part.length = part) (hu : P.underlying ty = some d) (hd : d.isRow = true) (hs : (P.info? ty).map (·.size) = some part.length)
    (h : Boxw (wpList P ops Q rest (a.put o.dst (.agg part.toArray)) w)) : Boxw (wpList P ops Q (o :: rest) a w) :=
  aw_val _ hw (run_loadOp ho hx (run_loadVar_mid w g k ty part d (row_range (hl.get hi) hp) hu hd hs)) rfl h
theorem run_storeOp {ty : TypeId} {x y : Operand} {A : Addr} {w' : World} (ho : o.op = .store ty x y) (hx : a.eval x = .pointer (some A)) (hl : (storeVar ty A (a.eval y)).run P w = .ok () w') : ∃ z, (execOp a.eval o).run P w = .ok z w' ∧ (z = .value undef ∨ z = .skip) := by
  unfold execOp
  simp only [ho, hx, Instr.storeAt, Instr.sureAddr, Sem.run_bind, Sem.run_pure, Result.andThen_ok, hl]
  first | exact ⟨_, rfl, .inl rfl⟩ | exact ⟨_, rfl, .inr rfl⟩
theorem upon_store {z : Next} {K : Act → World → Prop} {w' : World} (hz : z = .value undef ∨ z = .skip) (h : K (a.put o.dst undef) w') : Oper.upon P o a K Q (.ok z w') := by
  rcases hz with rfl | rfl
  · rw [Oper.upon_value]; exact h
  · rw [Oper.upon_skip]; exact h
/-- A store into a block of the call's own. -/
theorem aw_store (ty : TypeId) (x y : Operand) (i g k : Nat) (t0 : TypeId) (cs vs cs' : List Value) (rows' : List (Nat × TypeId × List Value)) (hl : Loc w0 rows w) (hw : Region.wanted o (yielded ops a.tmps) = true) (ho : o.op = .store ty x y)
    (hx : a.eval x = .pointer (some ⟨g, k, none⟩)) (hy : (a.eval y).cells = vs.toArray) (hi : rows[i]? = some (g, t0, cs)) (hs : (P.info? ty).map (·.size) = some vs.length) (h1 : vs.all (·.oneCell') = true) (hk : k + vs.length ≤ cs.length)
    (hc : cs.take k ++ vs ++ cs.drop (k + vs.length) = cs') (hr : rows.set i (g, t0, cs') = rows')
    (h : ∀ w', Loc w0 rows' w' → Boxw (wpList P ops Q rest (a.put o.dst undef) w')) : Boxw (wpList P ops Q (o :: rest) a w) := by
  refine Boxw.mk ?_
  unfold wpList
  rw [if_pos hw]
  refine .inl ?_
  unfold Oper.wp
  obtain ⟨z, hz, hzz⟩ := run_storeOp (P := P) (w := w) (w' := w.setCells g k vs) ho hx (run_storeVar_cells w g k ty (a.eval y) vs hy ((hl.get hi).there hk) hs h1)
  rw [hz]
  refine upon_store hzz (h _ ?_).out
  have := hl.store hi k vs hk
  rw [hc, hr] at this
  exact this
/-- A call that returns a value, and changes nothing that was there. -/
theorem aw_call (f : FuncId) (args : Array Value) (v : Value) (hl : Loc w0 rows w) (hw : Region.wanted o (yielded ops a.tmps) = true) (hr : (execOp a.eval o).run P w = .ok (.enter f args) w)
    (hc : Calls P f args w fun e w' => e = .returned v ∧ Below w.heap.size w w') (h : ∀ w', Loc w0 rows w' → Boxw (wpList P ops Q rest (a.put o.dst v) w')) : Boxw (wpList P ops Q (o :: rest) a w) := by
  refine Boxw.mk ?_
  unfold wpList
  rw [if_pos hw]
  refine .inl ?_
  unfold Oper.wp
  rw [hr]
  refine hc.mono ?_
  rintro e w' ⟨rfl, hb⟩
  exact (h w' (hl.up hb)).out
/-- The same, of a value of which something is known. -/
theorem aw_callx {R : Value → World → Prop} (f : FuncId) (args : Array Value) (hl : Loc w0 rows w) (hw : Region.wanted o (yielded ops a.tmps) = true) (hr : (execOp a.eval o).run P w = .ok (.enter f args) w)
    (hc : Calls P f args w fun e w' => ∃ v, e = .returned v ∧ R v w' ∧ Below w.heap.size w w') (h : ∀ v w', R v w' → Below w.heap.size w w' → Loc w0 rows w' → Boxw (wpList P ops Q rest (a.put o.dst v) w')) : Boxw (wpList P ops Q (o :: rest) a w) := by
  refine Boxw.mk ?_
  unfold wpList
  rw [if_pos hw]
  refine .inl ?_
  unfold Oper.wp
  rw [hr]
  refine hc.mono ?_
  rintro e w' ⟨v, rfl, hR, hb⟩
  exact (h v w' hR hb (hl.up hb)).out
theorem aw_nil (h : Boxw (Q .normal a w)) : Boxw (wpList P ops Q [] a w) := ⟨h.out⟩
theorem aw_skip0 (h : Boxw (Q .normal a w)) : Boxw (Code.skip.wp P Q a w) := ⟨wp_skip h.out⟩
theorem aw_exit {id : Nat} (h : Boxw (Q (.exit id) a w)) : Boxw ((Code.exit id).wp P Q a w) := ⟨wp_exit h.out⟩
theorem aw_ret (h : Boxw (Q .ret a w)) : Boxw (Code.ret.wp P Q a w) := ⟨wp_ret h.out⟩
theorem aw_n_then {y : Code} (h : Boxw (y.wp P Q a w)) : Boxw (Exit.then (y.wp P Q) Q .normal a w) := ⟨h.out⟩
theorem aw_r_then {K : Act → World → Prop} (h : Boxw (Q .ret a w)) : Boxw (Exit.then K Q .ret a w) := ⟨h.out⟩
theorem aw_e_then {K : Act → World → Prop} {id : Nat} (h : Boxw (Q (.exit id) a w)) : Boxw (Exit.then K Q (.exit id) a w) := ⟨h.out⟩
theorem aw_n_in {id : Nat} (h : Boxw (Q .normal a w)) : Boxw (Exit.inBlock id Q .normal a w) := ⟨h.out⟩
theorem aw_e_in {id : Nat} (h : Boxw (Q .normal a w)) : Boxw (Exit.inBlock id Q (.exit id) a w) := ⟨by show if id = id then _ else _; rw [if_pos rfl]; exact h.out⟩
theorem aw_end {fn : Func} {R : Ending → World → Prop} (v : Value) (hd : a.defers = []) (hr : (results fn a.tmps).run P w = .ok v w) (hR : R (.returned v) w) : Boxw (bodyPost P fn R .ret a w) := ⟨hd, v, hr, hR⟩
theorem aw_endn {fn : Func} {R : Ending → World → Prop} (v : Value) (hd : a.defers = []) (hr : (results fn a.tmps).run P w = .ok v w) (hR : R (.returned v) w) : Boxw (bodyPost P fn R .normal a w) := ⟨hd, v, hr, hR⟩
/-- A loop, by a number that falls. -/
theorem aw_loop {c : Code} (J : Nat → Act → World → Prop) (m : Nat) (h0 : J m a w) (round : ∀ n b u, J n b u → Boxw (c.wp P (Exit.then (fun b' u' => ∃ k, k < n ∧ J k b' u') Q) b u)) : Boxw ((Code.loop c).wp P Q a w) := by
  have least : ∀ b u, (∃ n, J n b u) → ∃ n, J n b u ∧ ∀ k, k < n → ¬ J k b u := fun b u h => by
    obtain ⟨n, hn⟩ := h
    induction n using Nat.strongRecOn with
    | _ n ih =>
      by_cases hx : ∃ k, k < n ∧ J k b u
      · obtain ⟨k, h1, h2⟩ := hx; exact ih k h1 h2
      · exact ⟨n, hn, fun k h1 h2 => hx ⟨k, h1, h2⟩⟩
  have key : ∃ μ : Act → World → Nat, ∀ b u, (∃ n, J n b u) → J (μ b u) b u ∧ ∀ k, J k b u → μ b u ≤ k := by
    refine ⟨fun b u => Classical.epsilon fun n => J n b u ∧ ∀ k, k < n → ¬ J k b u, fun b u h => ?_⟩
    have hs := Classical.epsilon_spec (least b u h)
    exact ⟨hs.1, fun k hk => Nat.le_of_not_lt fun hlt => hs.2 k hlt hk⟩
  obtain ⟨μ, hμ⟩ := key
  refine ⟨wp_loop (fun b u => ∃ n, J n b u) μ ⟨m, h0⟩ fun b u hI => ?_⟩
  refine wp_mono (round _ b u (hμ b u hI).1).out fun e b' u' he => ?_
  cases e with
  | normal =>
    obtain ⟨k, hk, hJ⟩ := he
    have := (hμ b' u' ⟨k, hJ⟩).2 k hJ
    exact ⟨⟨k, hJ⟩, by omega⟩
  | exit id => exact he
  | goto l => exact he
  | ret => exact he
  | panic ch => exact he
  | outgrown => exact he
theorem aw_round {J : Act → World → Prop} (h : J a w) : Boxw (Exit.then J Q .normal a w) := ⟨h⟩
theorem aw_cut {c : Code} (Q' : Exit → Act → World → Prop) (h : Boxw (c.wp P Q' a w)) (hq : ∀ e b u, Q' e b u → Q e b u) : Boxw (c.wp P Q a w) := ⟨wp_mono h.out hq⟩
theorem res_c {fn : Func} {tmps : Array Value} {k : Nat} {t : TypeId} {A : Addr} {v : Value} (hf : fn.results = #[.cell k t]) (ha : tmps.getD k undef = .pointer (some A)) (hl : (loadVar t A).run P w = .ok v w) : (results fn tmps).run P w = .ok v w := by
  unfold results
  rw [hf]
  have ha2 : tmps[k]?.getD undef = .pointer (some A) := by rw [← ha, Array.getD_eq_getD_getElem?]
  simp [ha2, asAddr, hl]
theorem loc_var {ty : TypeId} {i g : Nat} {t0 : TypeId} {cs : List Value} {d : TypeDesc} (hl : Loc w0 rows w) (hi : rows[i]? = some (g, t0, cs)) (hu : P.underlying ty = some d) (hd : d.isRow = true) (hs : (P.info? ty).map (·.size) = some cs.length) : (loadVar ty ⟨g, 0, none⟩).run P w = .ok (.agg cs.toArray) w :=
  run_loadVar_mid w g 0 ty cs d (row_range (hl.get hi) (by rw [List.drop_zero, List.take_length])) hu hd hs
end
end Go.Proofs.YtmbcejldifobnaaDoor

namespace Go.Proofs.YtmbcejldifobnaaDoor
open Go.RowKit Tp Sp
section
variable {P : Program} {ops : Array Oper} {oi : Oper} {a : Act} {w w0 : World} {Q : Exit → Act → World → Prop} {rows rowsR : List (Nat × TypeId × List Value)} {n i : Nat} {listed : Array Bool}
theorem ad_start {id : Nat} (rowsR : List (Nat × TypeId × List Value)) (hl : Loc w0 rows w) (hm : P.follows .mixedOrders = true) (hs : rowsR.Sublist rows) (hn : ops.size = n)
    (h : ∀ u, Loc w0 rows u → Boxw (wpE P .any ops Q (Loc w0 rowsR) n (Array.replicate n false) a u)) : Boxw ((Code.region id ops true).wp P Q a w) := by
  subst hn
  exact ⟨E_start hm (hl.drew.forget hs) (h _ hl.drew).out⟩
theorem ad_val (i : Nat) (v' : Value) {v : Value} (hi : ops[i]? = some oi) (hs : Region.noSelect ops = true) (hf : Region.free .any ops listed i = true) (hr : (Region.ready .any ops listed).contains i = true)
    (hQ : ∀ c a w, Q (.panic c) (a.put oi.dst v) w → Q (.panic c) a w) (hw : Region.wanted oi (yielded ops a.tmps) = true) (he : ∀ u, Loc w0 rowsR u → (execOp a.eval oi).run P u = .ok (.value v) u) (hv : v = v')
    (h : Boxw (wpE P .any ops Q (Loc w0 rowsR) n (listed.setIfInBounds i true) (a.put oi.dst v') w)) : Boxw (wpE P .any ops Q (Loc w0 rowsR) (n + 1) listed a w) := by
  subst hv
  exact ⟨call_take hi hs hf hr hQ ⟨hw, .inr he⟩ h.out⟩
theorem ad_fork (i : Nat) (b : Bool) (hi : ops[i]? = some oi) (hs : Region.noSelect ops = true) (hf : Region.free .any ops listed i = true) (hr : (Region.ready .any ops listed).contains i = true)
    (hQ : ∀ c a w, Q (.panic c) (a.put oi.dst (.bool b)) w → Q (.panic c) a w) (hw : Region.wanted oi (yielded ops a.tmps) = true) (he : ∀ u, Loc w0 rowsR u → (execOp a.eval oi).run P u = .ok (.value (.bool b)) u)
    (ht : b = true → Boxw (wpE P .any ops Q (Loc w0 rowsR) n (listed.setIfInBounds i true) (a.put oi.dst (.bool true)) w)) (hff : b = false → Boxw (wpE P .any ops Q (Loc w0 rowsR) n (listed.setIfInBounds i true) (a.put oi.dst (.bool false)) w)) :
    Boxw (wpE P .any ops Q (Loc w0 rowsR) (n + 1) listed a w) := by
  cases b
  · exact ad_val i _ hi hs hf hr hQ hw he rfl (hff rfl)
  · exact ad_val i _ hi hs hf hr hQ hw he rfl (ht rfl)
theorem ad_call (i : Nat) (f : FuncId) (args : Array Value) (v : Value) (hi : ops[i]? = some oi) (hs : Region.noSelect ops = true) (hf : Region.free .any ops listed i = true) (hr : (Region.ready .any ops listed).contains i = true)
    (hQ : ∀ c a w, Q (.panic c) (a.put oi.dst v) w → Q (.panic c) a w) (hw : Region.wanted oi (yielded ops a.tmps) = true) (he : ∀ u, (execOp a.eval oi).run P u = .ok (.enter f args) u)
    (hc : ∀ u, Loc w0 rowsR u → Calls P f args u fun e w' => e = .returned v ∧ Below u.heap.size u w')
    (h : Boxw (wpE P .any ops Q (Loc w0 rowsR) n (listed.setIfInBounds i true) (a.put oi.dst v) w)) : Boxw (wpE P .any ops Q (Loc w0 rowsR) (n + 1) listed a w) :=
  ⟨call_take hi hs hf hr hQ ⟨hw, .inl ⟨f, args, he, fun u hu => (hc u hu).mono fun _ _ ⟨h1, h2⟩ => ⟨h1, h2, hu.up h2⟩⟩⟩ h.out⟩
theorem ad_mid (i : Nat) (ty : TypeId) (x : Operand) (j g k : Nat) (t0 : TypeId) (cs part : List Value) (d : TypeDesc) (hi : ops[i]? = some oi) (hs : Region.noSelect ops = true) (hf : Region.free .any ops listed i = true) (hr : (Region.ready .any ops listed).contains i = true)
    (hQ : ∀ c a w, Q (.panic c) (a.put oi.dst (.agg part.toArray)) w → Q (.panic c) a w) (hw : Region.wanted oi (yielded ops a.tmps) = true) (ho : oi.op = .load ty x) (hx : a.eval x = .pointer (some ⟨g, k, none⟩))
    (hj : rowsR[j]? = some (g, t0, cs)) (hp : (cs.drop k).take part.length = part) (hu : P.underlying ty = some d) (hd : d.isRow = true) (hz : (P.info? ty).map (·.size) = some part.length)
    (h : Boxw (wpE P .any ops Q (Loc w0 rowsR) n (listed.setIfInBounds i true) (a.put oi.dst (.agg part.toArray)) w)) : Boxw (wpE P .any ops Q (Loc w0 rowsR) (n + 1) listed a w) :=
  ad_val i _ hi hs hf hr hQ hw (fun _ hl => run_loadOp ho hx (run_loadVar_mid _ g k ty part d (row_range (hl.get hj) hp) hu hd hz)) rfl h
/-- An operation that may come next, whatever it does to the memory. -/
def AdStep (P : Program) (ops : Array Oper) (Q : Exit → Act → World → Prop) (w0 : World) (rows rowsR : List (Nat × TypeId × List Value)) (n : Nat) (listed : Array Bool) (a : Act) (i : Nat) : Prop :=
  ∀ u, Loc w0 rows u → wpOp P ops Q i (fun b t => Loc w0 rowsR t ∧ wpE P .any ops Q (Loc w0 rowsR) n (listed.setIfInBounds i true) b t) a u
theorem ad_many (hl : Loc w0 rows w) (hne : Region.ready .any ops listed ≠ []) (h : ∀ i ∈ Region.ready .any ops listed, AdStep P ops Q w0 rows rowsR n listed a i) : Boxw (wpE P .any ops Q (Loc w0 rowsR) (n + 1) listed a w) :=
  ⟨fun u hu => ⟨fun h0 => absurd h0 hne, fun j hj => h j hj u (hl.up hu.1)⟩⟩
theorem ad_one (i : Nat) (hl : Loc w0 rows w) (hr : Region.ready .any ops listed = [i]) (h : AdStep P ops Q w0 rows rowsR n listed a i) : Boxw (wpE P .any ops Q (Loc w0 rowsR) (n + 1) listed a w) :=
  ad_many hl (by rw [hr]; simp) (by rw [hr]; intro j hj; obtain rfl : j = i := by simpa using hj
                                    exact h)
theorem ad_two (i j : Nat) (hl : Loc w0 rows w) (hr : Region.ready .any ops listed = [i, j]) (h : AdStep P ops Q w0 rows rowsR n listed a i) (h' : AdStep P ops Q w0 rows rowsR n listed a j) : Boxw (wpE P .any ops Q (Loc w0 rowsR) (n + 1) listed a w) :=
  ad_many hl (by rw [hr]; simp) (by
    rw [hr]; intro k hk
    have hk' : k = i ∨ k = j := by simpa using hk
    rcases hk' with rfl | rfl
    · exact h
    · exact h')
theorem as_store (ty : TypeId) (x y : Operand) (j g k : Nat) (t0 : TypeId) (cs vs cs' : List Value) (rows' : List (Nat × TypeId × List Value)) (hi : ops[i]? = some oi) (hw : Region.wanted oi (yielded ops a.tmps) = true) (ho : oi.op = .store ty x y)
    (hx : a.eval x = .pointer (some ⟨g, k, none⟩)) (hy : (a.eval y).cells = vs.toArray) (hj : rows[j]? = some (g, t0, cs)) (hs : (P.info? ty).map (·.size) = some vs.length) (h1 : vs.all (·.oneCell') = true) (hk : k + vs.length ≤ cs.length)
    (hc : cs.take k ++ vs ++ cs.drop (k + vs.length) = cs') (hr : rows.set j (g, t0, cs') = rows') (hsub : rowsR.Sublist rows')
    (h : ∀ w', Loc w0 rows' w' → Boxw (wpE P .any ops Q (Loc w0 rowsR) n (listed.setIfInBounds i true) (a.put oi.dst undef) w')) : AdStep P ops Q w0 rows rowsR n listed a i := by
  intro u hl
  unfold wpOp
  simp only [hi, hw, if_true]
  left
  unfold Oper.wp
  obtain ⟨z, hz, hzz⟩ := run_storeOp (P := P) (w := u) (w' := u.setCells g k vs) ho hx (run_storeVar_cells u g k ty (a.eval y) vs hy ((hl.get hj).there hk) hs h1)
  rw [hz]
  have hl' := hl.store hj k vs hk
  rw [hc, hr] at hl'
  exact upon_store hzz ⟨hl'.forget hsub, (h _ hl').out⟩
theorem as_callx {R : World → Value → World → Prop} (f : FuncId) (args : Array Value) (hi : ops[i]? = some oi) (hw : Region.wanted oi (yielded ops a.tmps) = true) (he : ∀ u, (execOp a.eval oi).run P u = .ok (.enter f args) u) (hsub : rowsR.Sublist rows)
    (hc : ∀ u, Loc w0 rows u → Calls P f args u fun e w' => ∃ v, e = .returned v ∧ R u v w' ∧ Below u.heap.size u w')
    (h : ∀ u v w', Loc w0 rows u → R u v w' → Below u.heap.size u w' → Loc w0 rows w' → Boxw (wpE P .any ops Q (Loc w0 rowsR) n (listed.setIfInBounds i true) (a.put oi.dst v) w')) : AdStep P ops Q w0 rows rowsR n listed a i := by
  intro u hl
  unfold wpOp
  simp only [hi, hw, if_true]
  left
  unfold Oper.wp
  rw [he, Oper.upon_enter]
  refine (hc u hl).mono ?_
  rintro e w' ⟨v, rfl, hR, hb⟩
  exact ⟨(hl.up hb).forget hsub, (h u v w' hl hR hb (hl.up hb)).out⟩
/-- What a region may rely on from here on: more rows. -/
theorem ad_more {rowsR' : List (Nat × TypeId × List Value)} (hl : Loc w0 rowsR' w) (hs : rowsR.Sublist rowsR') (h : Boxw (wpE P .any ops Q (Loc w0 rowsR') n listed a w)) : Boxw (wpE P .any ops Q (Loc w0 rowsR) n listed a w) := by
  refine ⟨?_⟩
  have key : ∀ (n : Nat) (listed : Array Bool) (a : Act) (w : World), Loc w0 rowsR' w → wpE P .any ops Q (Loc w0 rowsR') n listed a w → wpE P .any ops Q (Loc w0 rowsR) n listed a w := by
    intro n
    induction n with
    | zero => intro listed a w hw h u hu; exact h u ⟨hu.1, hw.up hu.1⟩
    | succ n ih =>
      intro listed a w hw h u hu
      have hx := h u ⟨hu.1, hw.up hu.1⟩
      exact ⟨hx.1, fun i hi => wpOp_mono (fun b t hb => ⟨hb.1.forget hs, ih _ b t hb.1 hb.2⟩) (hx.2 i hi)⟩
  exact key n listed a w hl h.out
theorem ad_done (hl : Loc w0 rows w) (hr : Region.ready .any ops listed = []) (h : ∀ u, Loc w0 rows u → Boxw (Q .normal a u)) : Boxw (wpE P .any ops Q (Loc w0 rowsR) n listed a w) :=
  ⟨E_done hr (fun u hu => (h u (hl.up hu.1)).out) n⟩
end
theorem run_neg {P : Program} {o : Oper} {E : Operand → Value} (w : World) (ty : TypeId) (x : Operand) (p : Int) (ho : o.op = .unOp .neg ty x) (hx : E x = .int .i64 p) : (execOp E o).run P w = .ok (.value (.int .i64 (IntKind.i64.wrap (-p)))) w := by
  obtain ⟨d, op, t, pos, af, gd⟩ := o
  subst ho
  go_simp
theorem run_quo {P : Program} {o : Oper} {E : Operand → Value} (w : World) (ty ty2 : TypeId) (x y : Operand) (p q : Int) (ho : o.op = .binOp .quo ty x y ty2) (hx : E x = .int .i64 p) (hy : E y = .int .i64 q) (h0 : q ≠ 0) (hu : P.underlying ty = some (.int .i64)) : (execOp E o).run P w = .ok (.value (.int .i64 (IntKind.i64.wrap (p.tdiv q)))) w := by
  obtain ⟨d, op, t, pos, af, gd⟩ := o
  subst ho
  go_simp
theorem quo_pos {p q : Int} (h0 : 0 ≤ p) (h1 : p ≤ 9223372036854775807) (hq : 0 < q) : IntKind.i64.wrap (p.tdiv q) = p / q := by
  have e : p.tdiv q = p / q := Int.tdiv_eq_ediv_of_nonneg h0
  have a : p / q ≤ p := Int.ediv_le_self q h0
  have b : 0 ≤ p / q := Int.ediv_nonneg h0 (by omega)
  rw [e]
  exact IntWalk.i64_in _ (by omega)
theorem Loc.perm {w0 w : World} {rows rows' : List (Nat × TypeId × List Value)} (h : Loc w0 rows w) (hp : rows.Perm rows') : Loc w0 rows' w :=
  ⟨h.bel, fun r hr => h.row r (hp.symm.subset hr), (hp.pairwise_iff (fun hxy => Ne.symm hxy)).1 h.apart⟩
end Go.Proofs.YtmbcejldifobnaaDoor

namespace Go.Proofs.YtmbcejldifobnaaDoor
open Go.RowKit Tp Sp
def acts (b : Array Value) : List (Nat × Value) → Act
  | [] => ⟨b, []⟩
  | p :: ps => (acts b ps).put (some p.1) p.2
def putX (ps : List (Nat × Value)) (d : Option Nat) (v : Value) : List (Nat × Value) := match d with | some k => (k, v) :: ps | none => ps
def look (n : Nat) (b : Array Value) : List (Nat × Value) → Nat → Value
  | [], t => b.getD t undef
  | p :: ps, t => bif Nat.beq p.1 t && Nat.blt p.1 n then p.2 else look n b ps t
def evA (n : Nat) (b : Array Value) (ps : List (Nat × Value)) : Operand → Value
  | .tmp t => look n b ps t
  | .const v => v
  | .global g => .pointer (some ⟨g, 0, none⟩)
  | .func f => .func (.func f) #[] #[]
def yieldA (ops : Array Oper) (n : Nat) (b : Array Value) (ps : List (Nat × Value)) (j : Nat) : Option Bool :=
  match ops[j]?.bind fun x => x.dst with
  | some d => match look n b ps d with
    | .bool c => some c
    | _ => none
  | none => none
theorem acts_size {b : Array Value} : ∀ ps, (acts b ps).tmps.size = b.size
  | [] => rfl
  | p :: ps => by show ((acts b ps).tmps.setIfInBounds p.1 p.2).size = _; rw [Array.size_setIfInBounds]; exact acts_size ps
theorem acts_get {n : Nat} {b : Array Value} (hb : b.size = n) : ∀ ps t, (acts b ps).tmps.getD t undef = look n b ps t
  | [], _ => rfl
  | p :: ps, t => by
    have ih := acts_get hb ps t
    show ((acts b ps).tmps.setIfInBounds p.1 p.2).getD t undef = bif Nat.beq p.1 t && Nat.blt p.1 n then p.2 else look n b ps t
    have hs := acts_size (b := b) ps
    rw [hb] at hs
    rw [Array.getD_eq_getD_getElem?, Array.getElem?_setIfInBounds]
    by_cases h1 : p.1 = t
    · by_cases h2 : p.1 < n
      · rw [if_pos h1, if_pos (by omega)]
        have e1 : Nat.beq p.1 t = true := by rw [h1]; exact Nat.beq_refl t
        have e2 : Nat.blt p.1 n = true := Nat.ble_eq_true_of_le h2
        rw [e1, e2]; rfl
      · rw [if_pos h1, if_neg (by omega)]
        have e2 : Nat.blt p.1 n = false := by
          cases h : Nat.blt p.1 n
          · rfl
          · exact absurd (Nat.le_of_ble_eq_true h) h2
        rw [e2, Bool.and_false, ← ih, Array.getD_eq_getD_getElem?, Array.getElem?_eq_none (by omega)]
        rfl
    · rw [if_neg h1]
      have e1 : Nat.beq p.1 t = false := by
        cases h : Nat.beq p.1 t
        · rfl
        · exact absurd (Nat.eq_of_beq_eq_true h) h1
      rw [e1, Bool.false_and, ← ih, Array.getD_eq_getD_getElem?]
      rfl
theorem acts_eval {n : Nat} {b : Array Value} (hb : b.size = n) (ps : List (Nat × Value)) : (acts b ps).eval = evA n b ps := by
  funext x
  cases x with
  | tmp t => exact acts_get hb ps t
  | const v => rfl
  | global g => rfl
  | func f => rfl
theorem acts_yield {n : Nat} {b : Array Value} (hb : b.size = n) (ops : Array Oper) (ps : List (Nat × Value)) : yielded ops (acts b ps).tmps = yieldA ops n b ps := by
  funext j
  unfold yielded yieldA
  cases h : ops[j]?.bind fun x => x.dst with
  | none => rfl
  | some d =>
    show (match (acts b ps).tmps[d]? with | some (.bool c) => some c | _ => none) = _
    have e := acts_get hb ps d
    rw [Array.getD_eq_getD_getElem?] at e
    show _ = match look n b ps d with | .bool c => some c | _ => none
    rw [← e]
    cases (acts b ps).tmps[d]? with
    | none => rfl
    | some v => cases v <;> rfl
theorem acts_put {b : Array Value} {ps : List (Nat × Value)} {d : Option Nat} {v : Value} : (acts b ps).put d v = acts b (putX ps d v) := by cases d <;> rfl
section
variable {P : Program} {ops : Array Oper} {rest : List Oper} {o : Oper} {n : Nat} {b : Array Value} {ps : List (Nat × Value)} {w w0 : World} {Q : Exit → Act → World → Prop} {rows : List (Nat × TypeId × List Value)}
theorem ax_in {c : Code} (h : Boxw (c.wp P Q (acts b []) w)) : Boxw (c.wp P Q ⟨b, []⟩ w) := h
theorem ax_re {e : Exit} (h : Boxw (Q e (acts b []) w)) : Boxw (Q e ⟨b, []⟩ w) := h
theorem ax_yes {c : Operand} {x y : Code} (hb : b.size = n) (hc : evA n b ps c = .bool true) (h : Boxw (x.wp P Q (acts b ps) w)) : Boxw ((Code.cond c x y).wp P Q (acts b ps) w) := aw_yes (by rw [acts_eval hb]; exact hc) h
theorem ax_no {c : Operand} {x y : Code} (hb : b.size = n) (hc : evA n b ps c = .bool false) (h : Boxw (y.wp P Q (acts b ps) w)) : Boxw ((Code.cond c x y).wp P Q (acts b ps) w) := aw_no (by rw [acts_eval hb]; exact hc) h
theorem ax_pass (hb : b.size = n) (hw : Region.wanted o (yieldA ops n b ps) = false) (h : Boxw (wpList P ops Q rest (acts b (putX ps o.dst undef)) w)) : Boxw (wpList P ops Q (o :: rest) (acts b ps) w) := aw_pass (by rw [acts_yield hb]; exact hw) (by rw [acts_put]; exact h)
theorem ax_val {v : Value} (v' : Value) (hb : b.size = n) (hw : Region.wanted o (yieldA ops n b ps) = true) (hr : (execOp (evA n b ps) o).run P w = .ok (.value v) w) (hv : v = v') (h : Boxw (wpList P ops Q rest (acts b (putX ps o.dst v')) w)) : Boxw (wpList P ops Q (o :: rest) (acts b ps) w) :=
  aw_val v' (by rw [acts_yield hb]; exact hw) (by rw [acts_eval hb]; exact hr) hv (by rw [acts_put]; exact h)
theorem ax_fork (c : Bool) (hb : b.size = n) (hw : Region.wanted o (yieldA ops n b ps) = true) (hr : (execOp (evA n b ps) o).run P w = .ok (.value (.bool c)) w)
    (ht : c = true → Boxw (wpList P ops Q rest (acts b (putX ps o.dst (.bool true))) w)) (hf : c = false → Boxw (wpList P ops Q rest (acts b (putX ps o.dst (.bool false))) w)) : Boxw (wpList P ops Q (o :: rest) (acts b ps) w) :=
  aw_fork c (by rw [acts_yield hb]; exact hw) (by rw [acts_eval hb]; exact hr) (fun h => by rw [acts_put]; exact ht h) (fun h => by rw [acts_put]; exact hf h)
theorem ax_new (ty : TypeId) (cs : List Value) (hb : b.size = n) (hl : Loc w0 rows w) (hw : Region.wanted o (yieldA ops n b ps) = true) (hr : (execOp (evA n b ps) o).run P w = .ok (.value (.pointer (some ⟨w.heap.size, 0, none⟩))) (w.alloc (.cells cs.toArray ty)))
    (h : ∀ g w', Loc w0 ((g, ty, cs) :: rows) w' → Boxw (wpList P ops Q rest (acts b (putX ps o.dst (.pointer (some ⟨g, 0, none⟩)))) w')) : Boxw (wpList P ops Q (o :: rest) (acts b ps) w) :=
  aw_new ty cs hl (by rw [acts_yield hb]; exact hw) (by rw [acts_eval hb]; exact hr) (fun g w' hl' => by rw [acts_put]; exact h g w' hl')
theorem ax_load (ty : TypeId) (x : Operand) (i g k : Nat) (t0 : TypeId) (cs : List Value) (v : Value) (d : TypeDesc) (hb : b.size = n) (hl : Loc w0 rows w) (hw : Region.wanted o (yieldA ops n b ps) = true) (ho : o.op = .load ty x) (hx : evA n b ps x = .pointer (some ⟨g, k, none⟩))
    (hi : rows[i]? = some (g, t0, cs)) (hv : cs[k]? = some v) (hu : P.underlying ty = some d) (hd : d.isRow = false)
    (h : Boxw (wpList P ops Q rest (acts b (putX ps o.dst v)) w)) : Boxw (wpList P ops Q (o :: rest) (acts b ps) w) :=
  aw_load ty x i g k t0 cs v d hl (by rw [acts_yield hb]; exact hw) ho (by rw [acts_eval hb]; exact hx) hi hv hu hd (by rw [acts_put]; exact h)
theorem ax_mid (ty : TypeId) (x : Operand) (i g k : Nat) (t0 : TypeId) (cs part : List Value) (d : TypeDesc) (hb : b.size = n) (hl : Loc w0 rows w) (hw : Region.wanted o (yieldA ops n b ps) = true) (ho : o.op = .load ty x) (hx : evA n b ps x = .pointer (some ⟨g, k, none⟩))
    (hi : rows[i]? = some (g, t0, cs)) (hp : (cs.drop k).take part.length = part) (hu : P.underlying ty = some d) (hd : d.isRow = true) (hs : (P.info? ty).map (·.size) = some part.length)
    (h : Boxw (wpList P ops Q rest (acts b (putX ps o.dst (.agg part.toArray))) w)) : Boxw (wpList P ops Q (o :: rest) (acts b ps) w) :=
  aw_mid ty x i g k t0 cs part d hl (by rw [acts_yield hb]; exact hw) ho (by rw [acts_eval hb]; exact hx) hi hp hu hd hs (by rw [acts_put]; exact h)
theorem ax_store (ty : TypeId) (x y : Operand) (i g k : Nat) (t0 : TypeId) (cs vs cs' : List Value) (rows' : List (Nat × TypeId × List Value)) (hb : b.size = n) (hl : Loc w0 rows w) (hw : Region.wanted o (yieldA ops n b ps) = true) (ho : o.op = .store ty x y)
    (hx : evA n b ps x = .pointer (some ⟨g, k, none⟩)) (hy : (evA n b ps y).cells = vs.toArray) (hi : rows[i]? = some (g, t0, cs)) (hs : (P.info? ty).map (·.size) = some vs.length) (h1 : vs.all (·.oneCell') = true) (hk : k + vs.length ≤ cs.length)
    (hc : cs.take k ++ vs ++ cs.drop (k + vs.length) = cs') (hr : rows.set i (g, t0, cs') = rows')
    (h : ∀ w', Loc w0 rows' w' → Boxw (wpList P ops Q rest (acts b (putX ps o.dst undef)) w')) : Boxw (wpList P ops Q (o :: rest) (acts b ps) w) :=
  aw_store ty x y i g k t0 cs vs cs' rows' hl (by rw [acts_yield hb]; exact hw) ho (by rw [acts_eval hb]; exact hx) (by rw [acts_eval hb]; exact hy) hi hs h1 hk hc hr (fun w' hl' => by rw [acts_put]; exact h w' hl')
theorem ax_call (f : FuncId) (args : Array Value) (v : Value) (hb : b.size = n) (hl : Loc w0 rows w) (hw : Region.wanted o (yieldA ops n b ps) = true) (hr : (execOp (evA n b ps) o).run P w = .ok (.enter f args) w)
    (hc : Calls P f args w fun e w' => e = .returned v ∧ Below w.heap.size w w') (h : ∀ w', Loc w0 rows w' → Boxw (wpList P ops Q rest (acts b (putX ps o.dst v)) w')) : Boxw (wpList P ops Q (o :: rest) (acts b ps) w) :=
  aw_call f args v hl (by rw [acts_yield hb]; exact hw) (by rw [acts_eval hb]; exact hr) hc (fun w' hl' => by rw [acts_put]; exact h w' hl')
theorem ax_callx {R : Value → World → Prop} (f : FuncId) (args : Array Value) (hb : b.size = n) (hl : Loc w0 rows w) (hw : Region.wanted o (yieldA ops n b ps) = true) (hr : (execOp (evA n b ps) o).run P w = .ok (.enter f args) w)
    (hc : Calls P f args w fun e w' => ∃ v, e = .returned v ∧ R v w' ∧ Below w.heap.size w w') (h : ∀ v w', R v w' → Below w.heap.size w w' → Loc w0 rows w' → Boxw (wpList P ops Q rest (acts b (putX ps o.dst v)) w')) : Boxw (wpList P ops Q (o :: rest) (acts b ps) w) :=
  aw_callx f args hl (by rw [acts_yield hb]; exact hw) (by rw [acts_eval hb]; exact hr) hc (fun v w' h1 h2 hl' => by rw [acts_put]; exact h v w' h1 h2 hl')
end
section
variable {P : Program} {ops : Array Oper} {oi : Oper} {m : Nat} {b : Array Value} {ps : List (Nat × Value)} {w w0 : World} {Q : Exit → Act → World → Prop} {rows rowsR : List (Nat × TypeId × List Value)} {n i : Nat} {listed : Array Bool}
theorem ay_val (i : Nat) (v' : Value) {v : Value} (hb : b.size = m) (hi : ops[i]? = some oi) (hs : Region.noSelect ops = true) (hf : Region.free .any ops listed i = true) (hr : (Region.ready .any ops listed).contains i = true)
    (hQ : ∀ c a w, Q (.panic c) (a.put oi.dst v) w → Q (.panic c) a w) (hw : Region.wanted oi (yieldA ops m b ps) = true) (he : ∀ u, Loc w0 rowsR u → (execOp (evA m b ps) oi).run P u = .ok (.value v) u) (hv : v = v')
    (h : Boxw (wpE P .any ops Q (Loc w0 rowsR) n (listed.setIfInBounds i true) (acts b (putX ps oi.dst v')) w)) : Boxw (wpE P .any ops Q (Loc w0 rowsR) (n + 1) listed (acts b ps) w) :=
  ad_val i v' hi hs hf hr hQ (by rw [acts_yield hb]; exact hw) (fun u hu => by rw [acts_eval hb]; exact he u hu) hv (by rw [acts_put]; exact h)
theorem ay_fork (i : Nat) (c : Bool) (hb : b.size = m) (hi : ops[i]? = some oi) (hs : Region.noSelect ops = true) (hf : Region.free .any ops listed i = true) (hr : (Region.ready .any ops listed).contains i = true)
    (hQ : ∀ k a w, Q (.panic k) (a.put oi.dst (.bool c)) w → Q (.panic k) a w) (hw : Region.wanted oi (yieldA ops m b ps) = true) (he : ∀ u, Loc w0 rowsR u → (execOp (evA m b ps) oi).run P u = .ok (.value (.bool c)) u)
    (ht : c = true → Boxw (wpE P .any ops Q (Loc w0 rowsR) n (listed.setIfInBounds i true) (acts b (putX ps oi.dst (.bool true))) w)) (hff : c = false → Boxw (wpE P .any ops Q (Loc w0 rowsR) n (listed.setIfInBounds i true) (acts b (putX ps oi.dst (.bool false))) w)) :
    Boxw (wpE P .any ops Q (Loc w0 rowsR) (n + 1) listed (acts b ps) w) :=
  ad_fork i c hi hs hf hr hQ (by rw [acts_yield hb]; exact hw) (fun u hu => by rw [acts_eval hb]; exact he u hu) (fun h => by rw [acts_put]; exact ht h) (fun h => by rw [acts_put]; exact hff h)
theorem ay_call (i : Nat) (f : FuncId) (args : Array Value) (v : Value) (hb : b.size = m) (hi : ops[i]? = some oi) (hs : Region.noSelect ops = true) (hf : Region.free .any ops listed i = true) (hr : (Region.ready .any ops listed).contains i = true)
    (hQ : ∀ c a w, Q (.panic c) (a.put oi.dst v) w → Q (.panic c) a w) (hw : Region.wanted oi (yieldA ops m b ps) = true) (he : ∀ u, (execOp (evA m b ps) oi).run P u = .ok (.enter f args) u)
    (hc : ∀ u, Loc w0 rowsR u → Calls P f args u fun e w' => e = .returned v ∧ Below u.heap.size u w')
    (h : Boxw (wpE P .any ops Q (Loc w0 rowsR) n (listed.setIfInBounds i true) (acts b (putX ps oi.dst v)) w)) : Boxw (wpE P .any ops Q (Loc w0 rowsR) (n + 1) listed (acts b ps) w) :=
  ad_call i f args v hi hs hf hr hQ (by rw [acts_yield hb]; exact hw) (fun u => by rw [acts_eval hb]; exact he u) hc (by rw [acts_put]; exact h)
theorem ay_mid (i : Nat) (ty : TypeId) (x : Operand) (j g k : Nat) (t0 : TypeId) (cs part : List Value) (d : TypeDesc) (hb : b.size = m) (hi : ops[i]? = some oi) (hs : Region.noSelect ops = true) (hf : Region.free .any ops listed i = true) (hr : (Region.ready .any ops listed).contains i = true)
    (hQ : ∀ c a w, Q (.panic c) (a.put oi.dst (.agg part.toArray)) w → Q (.panic c) a w) (hw : Region.wanted oi (yieldA ops m b ps) = true) (ho : oi.op = .load ty x) (hx : evA m b ps x = .pointer (some ⟨g, k, none⟩))
    (hj : rowsR[j]? = some (g, t0, cs)) (hp : (cs.drop k).take part.length = part) (hu : P.underlying ty = some d) (hd : d.isRow = true) (hz : (P.info? ty).map (·.size) = some part.length)
    (h : Boxw (wpE P .any ops Q (Loc w0 rowsR) n (listed.setIfInBounds i true) (acts b (putX ps oi.dst (.agg part.toArray))) w)) : Boxw (wpE P .any ops Q (Loc w0 rowsR) (n + 1) listed (acts b ps) w) :=
  ad_mid i ty x j g k t0 cs part d hi hs hf hr hQ (by rw [acts_yield hb]; exact hw) ho (by rw [acts_eval hb]; exact hx) hj hp hu hd hz (by rw [acts_put]; exact h)
theorem bs_store (ty : TypeId) (x y : Operand) (j g k : Nat) (t0 : TypeId) (cs vs cs' : List Value) (rows' : List (Nat × TypeId × List Value)) (hb : b.size = m) (hi : ops[i]? = some oi) (hw : Region.wanted oi (yieldA ops m b ps) = true) (ho : oi.op = .store ty x y)
    (hx : evA m b ps x = .pointer (some ⟨g, k, none⟩)) (hy : (evA m b ps y).cells = vs.toArray) (hj : rows[j]? = some (g, t0, cs)) (hs : (P.info? ty).map (·.size) = some vs.length) (h1 : vs.all (·.oneCell') = true) (hk : k + vs.length ≤ cs.length)
    (hc : cs.take k ++ vs ++ cs.drop (k + vs.length) = cs') (hr : rows.set j (g, t0, cs') = rows') (hsub : rowsR.Sublist rows')
    (h : ∀ w', Loc w0 rows' w' → Boxw (wpE P .any ops Q (Loc w0 rowsR) n (listed.setIfInBounds i true) (acts b (putX ps oi.dst undef)) w')) : AdStep P ops Q w0 rows rowsR n listed (acts b ps) i :=
  as_store ty x y j g k t0 cs vs cs' rows' hi (by rw [acts_yield hb]; exact hw) ho (by rw [acts_eval hb]; exact hx) (by rw [acts_eval hb]; exact hy) hj hs h1 hk hc hr hsub (fun w' hl => by rw [acts_put]; exact h w' hl)
theorem bs_callx {R : World → Value → World → Prop} (f : FuncId) (args : Array Value) (hb : b.size = m) (hi : ops[i]? = some oi) (hw : Region.wanted oi (yieldA ops m b ps) = true) (he : ∀ u, (execOp (evA m b ps) oi).run P u = .ok (.enter f args) u) (hsub : rowsR.Sublist rows)
    (hc : ∀ u, Loc w0 rows u → Calls P f args u fun e w' => ∃ v, e = .returned v ∧ R u v w' ∧ Below u.heap.size u w')
    (h : ∀ u v w', Loc w0 rows u → R u v w' → Below u.heap.size u w' → Loc w0 rows w' → Boxw (wpE P .any ops Q (Loc w0 rowsR) n (listed.setIfInBounds i true) (acts b (putX ps oi.dst v)) w')) : AdStep P ops Q w0 rows rowsR n listed (acts b ps) i :=
  as_callx f args hi (by rw [acts_yield hb]; exact hw) (fun u => by rw [acts_eval hb]; exact he u) hsub hc (fun u v w' h0 h1 h2 h3 => by rw [acts_put]; exact h u v w' h0 h1 h2 h3)
end
end Go.Proofs.YtmbcejldifobnaaDoor

namespace Go.Proofs.YtmbcejldifobnaaDoor.Pc
open Go.RowKit Tp Sp
theorem tmc_loc {w0 w : World} {rows : List (Nat × TypeId × List Value)} {v : Value} {l : List (Nat × Int)} (h : TmC w0 w0.heap.size v l) (hl : Loc w0 rows w) : TmC w w.heap.size v l := by
  obtain ⟨A, cap, e, hc, h⟩ := h.keep hl.bel
  exact ⟨A, cap, e, hc, fun hne => by
    obtain ⟨g, o, e2, hg, hx⟩ := h hne
    exact ⟨g, o, e2, Nat.lt_of_lt_of_le hg hl.bel.size, hx⟩⟩
theorem natT_intT (l : List (Nat × Int)) : natT (intT l) = l := by
  unfold natT intT
  rw [List.map_map]
  exact (List.map_congr_left fun x _ => Prod.ext (Int.toNat_natCast x.1) rfl).trans (List.map_id l)
theorem Sign_valid (v : Value) (l : List (Nat × Int)) (w : World) (hv : TmC w w.heap.size v l) (hl : validL l) : Calls Tryd.prog 51 #[v] w fun e w' => e = .returned (.tuple #[.int .i64 (sgnP l), .int .i64 0]) ∧ Below w.heap.size w w' := by
  have h := Sign_any v (intT l) w hv.int (by have := hl.1; simp [intT]; omega)
  rw [hl.exam, if_pos rfl, natT_intT] at h
  exact h
theorem callx_of {P : Program} {f : FuncId} {args : Array Value} {w : World} {R : Value → World → Prop} (h : Calls P f args w fun e w' => (∃ V, e = .returned V ∧ R V w') ∧ Below w.heap.size w w') : Calls P f args w fun e w' => ∃ V, e = .returned V ∧ R V w' ∧ Below w.heap.size w w' :=
  h.mono fun _ _ ⟨⟨V, h1, h2⟩, hb⟩ => ⟨V, h1, h2, hb⟩
/-- The cells of terms. -/
def TmCur (cur : List Value) (l : List (Nat × Int)) : Prop := ∀ k x, l[k]? = some x → cur[k * 2]? = some (.int .i64 (x.1 : Int)) ∧ cur[k * 2 + 1]? = some (.int .i64 x.2)
theorem rowT_push {w0 u w' : World} {rows : List (Nat × TypeId × List Value)} {v : Value} {l : List (Nat × Int)} (hl : Loc w0 rows w') (hu : Loc w0 rows u) (h : RowT w' u.heap.size v l) (hne : l ≠ []) :
    ∃ g cap cur, v = .slice (some ⟨g, 0, none⟩) l.length cap ∧ l.length ≤ cap ∧ TmCur cur l ∧ Loc w0 ((g, 84, cur) :: rows) w' := by
  obtain ⟨A, cp, e, hcp, -, hcs⟩ := h.form
  rcases h.2 with ⟨-, h0⟩ | ⟨g, cap, cur, hv, hb, hg, hn, hc⟩
  · exact absurd (List.length_eq_zero_iff.1 h0) hne
  · rw [hv] at e
    simp only [Value.slice.injEq] at e
    obtain ⟨e1, -, e4⟩ := e
    subst e1
    subst e4
    rcases hcs with ⟨h1, -⟩ | ⟨g', h1, -, -, h4⟩
    · cases h1
    · cases h1
      have hr : RowV w' g 84 cur.toList := hg
      refine ⟨g, cap, cur.toList, hv, hcp, fun k x hx => ?_, hl.push hr hb hu.bel.size hu.lt⟩
      obtain ⟨a, b⟩ := h4 k x hx
      have key : ∀ i z, w'.cell? ⟨g, i, none⟩ = some z → cur.toList[i]? = some z := fun i z hz => by
        rw [Array.getElem?_toList]
        simpa [World.cell?, hg] using hz
      exact ⟨key _ _ a, key _ _ b⟩
theorem tmc_row {w0 w : World} {rows : List (Nat × TypeId × List Value)} {i g cap : Nat} {t : TypeId} {cur : List Value} {l : List (Nat × Int)} (hl : Loc w0 rows w) (hi : rows[i]? = some (g, t, cur)) (hc : TmCur cur l) (hcap : l.length ≤ cap) : TmC w w.heap.size (.slice (some ⟨g, 0, none⟩) l.length cap) l :=
  ⟨_, cap, rfl, hcap, fun _ => ⟨g, 0, rfl, (hl.get hi).lt, fun k x hx => by
    obtain ⟨a, b⟩ := hc k x hx
    rw [Nat.zero_add]
    exact ⟨(hl.get hi).cell a, (hl.get hi).cell b⟩⟩⟩
set_option maxRecDepth 100000 in
set_option maxHeartbeats 2000000 in
theorem order_any (A1 : Option Addr) (c1 : Nat) (l1 : List (Nat × Int)) (d1 : Int) (A2 : Option Addr) (c2 : Nat) (l2 : List (Nat × Int)) (d2 : Int) (w : World) (m1 : TmC w w.heap.size (.slice A1 l1.length c1) l1) (m2 : TmC w w.heap.size (.slice A2 l2.length c2) l2) (hl1 : l1.length ≤ 100) (hl2 : l2.length ≤ 100) (hb1 : Bd 1000000000 l1) (hb2 : Bd 1000000000 l2) (hd1 : 1 ≤ d1) (hd1' : d1 ≤ 1000) (hd2 : 1 ≤ d2) (hd2' : d2 ≤ 1000) (hvl : validL (scL d2 l1 ++ scL d1 (negL l2))) : Calls Tryd.prog 125 #[.agg #[.slice A1 l1.length c1, .int .i64 d1], .agg #[.slice A2 l2.length c2, .int .i64 d2]] w fun r w' => r = .returned (.int .i64 (sgnP (scL d2 l1 ++ scL d1 (negL l2)))) ∧ Below w.heap.size w w' := by
  refine calls_of_wp Tryd.func125 rfl ?_
  refine Boxw.out (ax_in ?_)
  have HB : Array.size ((#[.agg #[.slice A1 l1.length c1, .int .i64 d1], .agg #[.slice A2 l2.length c2, .int .i64 d2]] : Array Value) ++ Array.replicate (Func.ntmps Tryd.f125 - Array.size (#[.agg #[.slice A1 l1.length c1, .int .i64 d1], .agg #[.slice A2 l2.length c2, .int .i64 d2]] : Array Value)) undef) = 16 := by kernel_rfl
  have HL0 := Loc.start w
  refine aw_seq ?_
  refine aw_reg ?_
  refine ax_new 113 [.slice A1 l1.length c1, .int .i64 d1] HB HL0 (by kernel_rfl) (by kernel_rfl) ?_
  intro g1 w2 HL3
  clear HL0
  refine ax_new 113 [.slice A2 l2.length c2, .int .i64 d2] HB HL3 (by kernel_rfl) (by kernel_rfl) ?_
  intro g4 w5 HL6
  clear HL3
  refine ax_val (v := .int .i64 0) (.int .i64 0) HB (by kernel_rfl) (by kernel_rfl) (rfl) ?_
  refine aw_nil ?_
  refine aw_n_then ?_
  refine aw_seq ?_
  refine aw_reg ?_
  refine ax_mid 113 (.tmp 2) 1 g1 0 113 [.slice A1 l1.length c1, .int .i64 d1] [.slice A1 l1.length c1, .int .i64 d1] _ HB HL6 (by kernel_rfl) rfl (by kernel_rfl) rfl rfl Tryd.underlying113 rfl (by kernel_rfl) ?_
  refine ax_mid 113 (.tmp 3) 0 g4 0 113 [.slice A2 l2.length c2, .int .i64 d2] [.slice A2 l2.length c2, .int .i64 d2] _ HB HL6 (by kernel_rfl) rfl (by kernel_rfl) rfl rfl Tryd.underlying113 rfl (by kernel_rfl) ?_
  refine ax_callx 126 #[.agg #[.slice A1 l1.length c1, .int .i64 d1], .agg #[.slice A2 l2.length c2, .int .i64 d2]] HB HL6 (by kernel_rfl) (by kernel_rfl) (callx_of (quotient_any A1 c1 l1 d1 A2 c2 l2 d2 w5 (tmc_loc m1 HL6) (tmc_loc m2 HL6) hl1 hl2 hb1 hb2 hd1 hd1' hd2 hd2')) ?_
  intro v9 w7 R10 hb11 HL8
  obtain ⟨v3, rfl, hrow3⟩ := R10
  have htm3 := hrow3.tmc
  clear HL6
  refine ax_val (v := v3) (v3) HB (by kernel_rfl) (by kernel_rfl) (rfl) ?_
  refine ax_call 51 #[v3] (.tuple #[.int .i64 (sgnP (scL d2 l1 ++ scL d1 (negL l2))), .int .i64 0]) HB HL8 (by kernel_rfl) (by kernel_rfl) (Sign_valid v3 (scL d2 l1 ++ scL d1 (negL l2)) w7 htm3 hvl) ?_
  intro w12 HL13
  clear HL8
  refine ax_val (v := .tuple #[.int .i64 (sgnP (scL d2 l1 ++ scL d1 (negL l2))), .int .i64 0]) (.tuple #[.int .i64 (sgnP (scL d2 l1 ++ scL d1 (negL l2))), .int .i64 0]) HB (by kernel_rfl) (by kernel_rfl) (rfl) ?_
  refine ax_val (v := .int .i64 (sgnP (scL d2 l1 ++ scL d1 (negL l2)))) (.int .i64 (sgnP (scL d2 l1 ++ scL d1 (negL l2)))) HB (by kernel_rfl) (by kernel_rfl) (rfl) ?_
  refine ax_val (v := .int .i64 0) (.int .i64 0) HB (by kernel_rfl) (by kernel_rfl) (rfl) ?_
  refine ax_val (v := .int .i64 (sgnP (scL d2 l1 ++ scL d1 (negL l2)))) (.int .i64 (sgnP (scL d2 l1 ++ scL d1 (negL l2)))) HB (by kernel_rfl) (by kernel_rfl) (rfl) ?_
  refine ax_val (v := .int .i64 0) (.int .i64 0) HB (by kernel_rfl) (by kernel_rfl) (rfl) ?_
  refine aw_nil ?_
  refine aw_n_then ?_
  refine aw_seq ?_
  refine aw_reg ?_
  refine ax_val (v := .int .i64 (sgnP (scL d2 l1 ++ scL d1 (negL l2)))) (.int .i64 (sgnP (scL d2 l1 ++ scL d1 (negL l2)))) HB (by kernel_rfl) (by kernel_rfl) (rfl) ?_
  refine ax_val (v := .int .i64 (sgnP (scL d2 l1 ++ scL d1 (negL l2)))) (.int .i64 (sgnP (scL d2 l1 ++ scL d1 (negL l2)))) HB (by kernel_rfl) (by kernel_rfl) (rfl) ?_
  refine aw_nil ?_
  refine aw_n_then ?_
  refine aw_ret ?_
  refine aw_end (.int .i64 (sgnP (scL d2 l1 ++ scL d1 (negL l2)))) (by kernel_rfl) (by kernel_rfl) ?_
  exact ⟨rfl, HL13.bel⟩

set_option maxRecDepth 100000 in
set_option maxHeartbeats 2000000 in
theorem outward_any (A : Option Addr) (c : Nat) (l : List (Nat × Int)) (d : Int) (w : World) (m1 : TmC w w.heap.size (.slice A l.length c) l) (hl1 : l.length ≤ 100) (hb1 : Bd 1000000000 l) (hb2 : Bd 1000000000000000 l) (hd1 : 1 ≤ d) (hd1' : d ≤ 1000) (hvl : validL (scL 1 l ++ scL d (negL [(1, 1)]))) (hne : negL l ≠ []) : Calls Tryd.prog 124 #[.agg #[.slice A l.length c, .int .i64 d]] w fun r w' => ∃ A' c', r = .returned (.agg #[.slice A' l.length c', .int .i64 d]) ∧ (if sgnP (scL 1 l ++ scL d (negL [(1, 1)])) < 0 then ∃ g cur, A' = some ⟨g, 0, none⟩ ∧ (negL l).length ≤ c' ∧ TmCur cur (negL l) ∧ Loc w [(g, 84, cur)] w' else A' = A ∧ c' = c) ∧ Below w.heap.size w w' := by
  refine calls_of_wp Tryd.func124 rfl ?_
  refine Boxw.out (ax_in ?_)
  have HB : Array.size ((#[.agg #[.slice A l.length c, .int .i64 d]] : Array Value) ++ Array.replicate (Func.ntmps Tryd.f124 - Array.size (#[.agg #[.slice A l.length c, .int .i64 d]] : Array Value)) undef) = 10 := by kernel_rfl
  have HL0 := Loc.start w
  refine aw_seq ?_
  refine aw_reg ?_
  refine ax_new 113 [.slice A l.length c, .int .i64 d] HB HL0 (by kernel_rfl) (by kernel_rfl) ?_
  intro g1 w2 HL3
  clear HL0
  refine ax_new 113 [.slice none 0 0, .int .i64 0] HB HL3 (by kernel_rfl) (by kernel_rfl) ?_
  intro g4 w5 HL6
  clear HL3
  refine aw_nil ?_
  refine aw_n_then ?_
  refine aw_seq ?_
  refine aw_seq ?_
  refine ad_start [(g4, 113, [.slice none 0 0, .int .i64 0]), (g1, 113, [.slice A l.length c, .int .i64 d])] HL6 (by kernel_rfl) (List.Sublist.cons_cons _ (List.Sublist.cons_cons _ List.Sublist.slnil)) rfl ?_
  intro w8 HL7
  clear HL6
  refine ay_mid 0 113 (.tmp 1) 1 g1 0 113 [.slice A l.length c, .int .i64 d] [.slice A l.length c, .int .i64 d] _ HB rfl (by kernel_rfl) (by kernel_rfl) (by kernel_rfl) (fun _ _ _ h => h) (by kernel_rfl) rfl (by kernel_rfl) rfl rfl Tryd.underlying113 rfl (by kernel_rfl) ?_
  refine ad_one 1 HL7 (by kernel_rfl) (bs_callx 127 #[.int .i64 1] HB rfl (by kernel_rfl) (fun _ => by kernel_rfl) (List.Sublist.cons_cons _ (List.Sublist.cons_cons _ List.Sublist.slnil)) (fun u hu => callx_of (whole_any 1 u)) ?_)
  intro u14 v11 w9 hu15 R12 hb13 HL10
  obtain ⟨vv16, rfl, hrow16⟩ := R12
  obtain ⟨g16, cp16, cu16, rfl, hc16, ht16, HL16⟩ := rowT_push HL10 hu15 hrow16 (by simp)
  clear HL7
  refine ad_more (rowsR' := [(g16, 84, cu16), (g4, 113, [.slice none 0 0, .int .i64 0]), (g1, 113, [.slice A l.length c, .int .i64 d])]) (HL16.forget (List.Sublist.cons_cons _ (List.Sublist.cons_cons _ (List.Sublist.cons_cons _ List.Sublist.slnil)))) (List.Sublist.cons _ (List.Sublist.cons_cons _ (List.Sublist.cons_cons _ List.Sublist.slnil))) ?_
  refine ay_call 2 125 #[.agg #[.slice A l.length c, .int .i64 d], .agg #[.slice (some ⟨g16, 0, none⟩) (([((1 : Nat), (1 : Int))]).length) cp16, .int .i64 1]] (.int .i64 (sgnP (scL 1 l ++ scL d (negL [(1, 1)])))) HB rfl (by kernel_rfl) (by kernel_rfl) (by kernel_rfl) (fun _ _ _ h => h) (by kernel_rfl) (fun _ => by kernel_rfl) (fun u hu => order_any A c l d (some ⟨g16, 0, none⟩) cp16 [(1, 1)] 1 u (tmc_loc m1 hu) (tmc_row (i := 0) hu rfl ht16 hc16) hl1 (by simp) hb1 (fun x hx => by rw [List.mem_singleton] at hx; subst hx; exact ⟨by show (-1000000000 : Int) ≤ 1; omega, by show (1 : Int) ≤ 1000000000; omega⟩) hd1 hd1' (by omega) (by omega) hvl) ?_
  refine ay_fork 3 (decide ((sgnP (scL 1 l ++ scL d (negL [(1, 1)]))) < 0)) HB rfl (by kernel_rfl) (by kernel_rfl) (by kernel_rfl) (fun _ _ _ h => h) (by kernel_rfl) (fun _ _ => by kernel_rfl) ?_ ?_
  · intro f19
    have k19 := of_decide_eq_true f19
    refine ad_done HL16 (by kernel_rfl) (fun w22 HL21 => ?_)
    clear HL16
    refine aw_n_then ?_
    refine ax_yes HB (by kernel_rfl) ?_
    refine aw_seq ?_
    refine aw_reg ?_
    refine ax_mid 113 (.tmp 1) 2 g1 0 113 [.slice A l.length c, .int .i64 d] [.slice A l.length c, .int .i64 d] _ HB HL21 (by kernel_rfl) rfl (by kernel_rfl) rfl rfl Tryd.underlying113 rfl (by kernel_rfl) ?_
    refine ax_callx 164 #[.agg #[.slice A l.length c, .int .i64 d]] HB HL21 (by kernel_rfl) (by kernel_rfl) (callx_of (inverse_any A c l d w22 (tmc_loc m1 HL21) hb2 hl1)) ?_
    intro v25 w23 R26 hb27 HL24
    obtain ⟨vv28, rfl, hrow28⟩ := R26
    obtain ⟨g28, cp28, cu28, rfl, hc28, ht28, HL28⟩ := rowT_push HL24 HL21 hrow28 hne
    clear HL21
    refine ax_store 113 (.tmp 2) (.tmp 8) 2 g4 0 113 [.slice none 0 0, .int .i64 0] [.slice (some ⟨g28, 0, none⟩) ((negL l).length) cp28, .int .i64 d] [.slice (some ⟨g28, 0, none⟩) ((negL l).length) cp28, .int .i64 d] [(g28, 84, cu28), (g16, 84, cu16), (g4, 113, [.slice (some ⟨g28, 0, none⟩) ((negL l).length) cp28, .int .i64 d]), (g1, 113, [.slice A l.length c, .int .i64 d])] HB HL28 (by kernel_rfl) rfl (by kernel_rfl) (by kernel_rfl) rfl (by kernel_rfl) (by kernel_rfl) (Nat.le_of_ble_eq_true rfl) rfl rfl ?_
    intro w29 HL30
    clear HL28
    refine aw_nil ?_
    refine aw_n_then ?_
    refine aw_ret ?_
    refine aw_r_then ?_
    refine aw_end (.agg #[.slice (some ⟨g28, 0, none⟩) ((negL l).length) cp28, .int .i64 d]) (by kernel_rfl) (res_c Tryd.results124 (by kernel_rfl) (loc_var HL30 (i := 2) rfl Tryd.underlying113 rfl (by kernel_rfl))) ?_
    exact ⟨some ⟨g28, 0, none⟩, cp28, by rw [negL_len], by rw [if_pos k19]; exact ⟨_, _, rfl, hc28, ht28, HL30.forget (List.Sublist.cons_cons _ (List.Sublist.cons _ (List.Sublist.cons _ (List.Sublist.cons _ List.Sublist.slnil))))⟩, HL30.bel⟩
  · intro f20
    have k20 := of_decide_eq_false f20
    refine ad_done HL16 (by kernel_rfl) (fun w32 HL31 => ?_)
    clear HL16
    refine aw_n_then ?_
    refine ax_no HB (by kernel_rfl) ?_
    refine aw_skip0 ?_
    refine aw_n_then ?_
    refine aw_seq ?_
    refine aw_reg ?_
    refine ax_mid 113 (.tmp 1) 2 g1 0 113 [.slice A l.length c, .int .i64 d] [.slice A l.length c, .int .i64 d] _ HB HL31 (by kernel_rfl) rfl (by kernel_rfl) rfl rfl Tryd.underlying113 rfl (by kernel_rfl) ?_
    refine ax_store 113 (.tmp 2) (.tmp 9) 1 g4 0 113 [.slice none 0 0, .int .i64 0] [.slice A l.length c, .int .i64 d] [.slice A l.length c, .int .i64 d] [(g16, 84, cu16), (g4, 113, [.slice A l.length c, .int .i64 d]), (g1, 113, [.slice A l.length c, .int .i64 d])] HB HL31 (by kernel_rfl) rfl (by kernel_rfl) (by kernel_rfl) rfl (by kernel_rfl) (by kernel_rfl) (Nat.le_of_ble_eq_true rfl) rfl rfl ?_
    intro w33 HL34
    clear HL31
    refine aw_nil ?_
    refine aw_n_then ?_
    refine aw_ret ?_
    refine aw_end (.agg #[.slice A l.length c, .int .i64 d]) (by kernel_rfl) (res_c Tryd.results124 (by kernel_rfl) (loc_var HL34 (i := 1) rfl Tryd.underlying113 rfl (by kernel_rfl))) ?_
    exact ⟨A, c, rfl, by rw [if_neg k20]; exact ⟨rfl, rfl⟩, HL34.bel⟩

end Go.Proofs.YtmbcejldifobnaaDoor.Pc
