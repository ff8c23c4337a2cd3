import Derived.Test.YtmmgbofhbnflkaaI1
import Derived.OrdersHeld
import Derived.Deep.RegionHeld
namespace Go.Proofs.Ytmmgbofhbnflkaa
open Go.RowKit

/-! A region whose order is drawn: calls that only add memory may come up in the order of the text. -/
section
variable {P : Program} {ops : Array Oper} {Q : Exit → Act → World → Prop} {md : Region.Mode} {S : World → Prop}

def Ext (S : World → Prop) (w w' : World) : Prop := Below w.heap.size w w' ∧ S w'
theorem Ext.trans {w w' w'' : World} (h : Ext S w w') (h' : Ext S w' w'') : Ext S w w'' := ⟨Below.after h.1 h'.1, h'.2⟩
theorem Ext.refl {w : World} (h : S w) : Ext S w w := ⟨Below.refl _ _, h⟩

/-- Whatever order is picked, and whatever memory calls add between the operations. -/
def wpE (P : Program) (md : Region.Mode) (ops : Array Oper) (Q : Exit → Act → World → Prop) (S : World → Prop) : Nat → Array Bool → Act → World → Prop
  | 0, listed, a, w => ∀ w', Ext S w w' → (Region.ready md ops listed = [] ∧ Q .normal a w')
  | n + 1, listed, a, w => ∀ w', Ext S w w' → ((Region.ready md ops listed = [] → Q .normal a w') ∧
      ∀ i ∈ Region.ready md ops listed, wpOp P ops Q i (fun b u => S u ∧ wpE P md ops Q S n (listed.setIfInBounds i true) b u) a w')
theorem wpE_up {w w' : World} (hx : Ext S w w') : ∀ {n : Nat} {listed : Array Bool} {a : Act}, wpE P md ops Q S n listed a w → wpE P md ops Q S n listed a w'
  | 0, _, _, h => fun u hu => h u (hx.trans hu)
  | _ + 1, _, _, h => fun u hu => h u (hx.trans hu)
theorem held_of_E : ∀ (n : Nat) (listed : Array Bool) (a : Act) (w : World), S w → wpE P md ops Q S n listed a w → wpAnyH P md ops Q S n listed a w
  | 0, _, _, w, hS, h => h w (Ext.refl hS)
  | n + 1, _, _, w, hS, h => ⟨(h w (Ext.refl hS)).1, fun i hi => wpOp_mono (fun b u hb => ⟨hb.1, held_of_E n _ b u hb.1 hb.2⟩) ((h w (Ext.refl hS)).2 i hi)⟩

/-- The operation is a call that in every world that meets S returns v and adds memory; or it yields v there at once. -/
def CallsTo (P : Program) (ops : Array Oper) (S : World → Prop) (o : Oper) (v : Value) (a : Act) : Prop :=
  Region.wanted o (yielded ops a.tmps) = true ∧ ((∃ f args, (∀ w, (execOp a.eval o).run P w = .ok (.enter f args) w) ∧ ∀ w, S w → Calls P f args w fun e w' => e = .returned v ∧ Ext S w w') ∨ ∀ w, S w → (execOp a.eval o).run P w = .ok (.value v) w)
/-- Or its guard passes it over, and it leaves nothing. -/
def Takes (P : Program) (ops : Array Oper) (S : World → Prop) (o : Oper) (v : Value) (a : Act) : Prop := CallsTo P ops S o v a ∨ (Region.wanted o (yielded ops a.tmps) = false ∧ v = undef)
theorem Takes.same {o : Oper} {v : Value} {a b : Act} (h : Takes P ops S o v a) (he : execOp b.eval o = execOp a.eval o) (hw : Region.wanted o (yielded ops b.tmps) = Region.wanted o (yielded ops a.tmps)) : Takes P ops S o v b := by
  unfold Takes CallsTo at *
  rw [he, hw]
  exact h
theorem Takes.step {i : Nat} {o : Oper} {v : Value} {a : Act} {w : World} {K : Act → World → Prop} (hi : ops[i]? = some o) (h : Takes P ops S o v a) (hS : S w) (hK : ∀ u, Ext S w u → K (a.put o.dst v) u) : wpOp P ops Q i K a w := by
  rcases h with ⟨hw, h⟩ | ⟨hw, rfl⟩
  · unfold wpOp
    simp only [hi, hw, if_true]
    left
    unfold Oper.wp
    rcases h with ⟨f, args, he, hc⟩ | hv
    · rw [he w, Oper.upon_enter]
      refine (hc w hS).mono ?_
      rintro e u ⟨rfl, hu⟩
      exact hK u hu
    · rw [hv w hS, Oper.upon_value]
      exact hK w (Ext.refl hS)
  · unfold wpOp
    simp only [hi, hw, Bool.false_eq_true, if_false]
    exact hK w (Ext.refl hS)
/-- An operation that is apart from it does not see whether it has come up. -/
theorem step_past {j : Nat} {oi oj : Oper} {v : Value} (hj : ops[j]? = some oj) (hap : oi.apart ops oj = true) (hsi : ∀ cs b, oi.op ≠ .select cs b) (hsj : ∀ cs b, oj.op ≠ .select cs b)
    (hQ : ∀ c a w, Q (.panic c) (a.put oi.dst v) w → Q (.panic c) a w) {K : Act → World → Prop} {a : Act} {w : World} (hy : Takes P ops S oi v a)
    (h : wpOp P ops Q j K (a.put oi.dst v) w) : wpOp P ops Q j (fun b u => Takes P ops S oi v b ∧ K (b.put oi.dst v) u) a w := by
  obtain ⟨p1, p2, p3⟩ := Oper.apart_spec hap
  have stay : ∀ b : Act, Takes P ops S oi v b → ∀ u, Takes P ops S oi v (b.put oj.dst u) := fun b hb u => hb.same (execOp_put oi hsi b oj.dst u p3) (wanted_put oi b oj.dst u p3)
  have swap : ∀ (b : Act) (u : Value), (b.put oi.dst v).put oj.dst u = (b.put oj.dst u).put oi.dst v := fun b u => Act.put_comm b v u p2
  unfold wpOp at *
  simp only [hj] at *
  rw [wanted_put oj a oi.dst v p1] at h
  by_cases hwd : Region.wanted oj (yielded ops a.tmps) = true
  · rw [if_pos hwd] at h ⊢
    rcases h with h | ⟨h1, h2⟩
    · left
      unfold Oper.wp at *
      rw [execOp_put oj hsj a oi.dst v p1] at h
      generalize (execOp a.eval oj).run P w = res at *
      rcases res with ⟨nx, u⟩ | ⟨hl, u⟩
      · cases nx with
        | value z => rw [Oper.upon_value] at h ⊢; rw [swap] at h; exact ⟨stay a hy z, h⟩
        | skip => rw [Oper.upon_skip] at h ⊢; rw [swap] at h; exact ⟨stay a hy undef, h⟩
        | defer d =>
          rw [Oper.upon_defer] at h ⊢
          rw [Act.put_defers, swap] at h
          exact ⟨stay { a with defers := d :: a.defers } (hy.same rfl rfl) undef, h⟩
        | enter f args =>
          rw [Oper.upon_enter] at h ⊢
          refine Calls.mono h fun e t he => ?_
          cases e with
          | returned z => simp only at he ⊢; rw [swap] at he; exact ⟨stay a hy z, he⟩
          | panicked c => exact hQ _ _ _ he
          | outgrown => exact he
        | row r args =>
          rw [Oper.upon_row] at h ⊢
          exact Rows.mono h fun z t ht => by rw [swap] at ht; exact ⟨stay a hy z, ht⟩
        | _ => exact absurd h (by simp [Oper.upon])
      · cases hl with
        | panic z => rw [Oper.upon_panic] at h ⊢; exact hQ _ _ _ h
        | _ => exact absurd h (by simp [Oper.upon])
    · right
      refine ⟨?_, h2⟩
      unfold Oper.asks at *
      rwa [execOp_put oj hsj a oi.dst v p1] at h1
  · rw [if_neg hwd] at h ⊢
    rw [swap] at h
    exact ⟨stay a hy undef, h⟩

/-- **A call that only adds memory may come up first.** -/
theorem call_first {i : Nat} {oi : Oper} {v : Value} (hi : ops[i]? = some oi) (hsel : ∀ (j : Nat) (o : Oper) cs b, ops[j]? = some o → o.op ≠ .select cs b) (hQ : ∀ c a w, Q (.panic c) (a.put oi.dst v) w → Q (.panic c) a w) :
    ∀ (n : Nat) (listed : Array Bool) (a : Act) (w : World),
      (∀ j oj, ops[j]? = some oj → j ≠ i → listed.getD j true = false → (∀ e ∈ oj.after, Region.binds md e = true → e.on ≠ i) → oi.apart ops oj = true) →
      i ∈ Region.ready md ops listed → Takes P ops S oi v a →
      wpE P md ops Q S n (listed.setIfInBounds i true) (a.put oi.dst v) w → wpE P md ops Q S (n + 1) listed a w := by
  intro n
  induction n with
  | zero =>
    intro listed a w _ hr hy H u hu
    refine ⟨fun h => (by rw [h] at hr; cases hr), fun j hj => ?_⟩
    by_cases e : j = i
    · subst e
      exact hy.step hi hu.2 fun t ht => ⟨ht.2, wpE_up (hu.trans ht) H⟩
    · have h1 := ready_mono hj e
      rw [(H u hu).1] at h1
      cases h1
  | succ n ih =>
    intro listed a w hfree hr hy H u hu
    refine ⟨fun h => (by rw [h] at hr; cases hr), fun j hj => ?_⟩
    by_cases e : j = i
    · subst e
      exact hy.step hi hu.2 fun t ht => ⟨ht.2, wpE_up (hu.trans ht) H⟩
    · obtain ⟨hjun, oj, hoj, hall⟩ := mem_ready.1 hj
      have hnot : ∀ x ∈ oj.after, Region.binds md x = true → x.on ≠ i := by
        intro x hx hb heq
        have h1 := hall x hx hb
        have h0 := (mem_ready.1 hr).1
        rw [heq] at h1
        rcases Nat.lt_or_ge i listed.size with hl | hl
        · simp [hl] at h0 h1; rw [h0] at h1; cases h1
        · simp [Array.getElem?_eq_none hl] at h1
      have h1 := (H u hu).2 j (ready_mono hj e)
      have h2 := step_past hoj (hfree j oj hoj e hjun hnot) (fun cs b => hsel i oi cs b hi) (fun cs b => hsel j oj cs b hoj) hQ hy h1
      refine wpOp_mono (fun b t hb => ⟨hb.2.1, ih (listed.setIfInBounds j true) b t ?_ (ready_mono hr (Ne.symm e)) hb.1 ?_⟩) h2
      · intro k ok hk hki hun hno
        refine hfree k ok hk hki ?_ hno
        by_cases hjk : j = k
        · subst hjk; exact hjun
        · rw [getD_set_ne true hjk] at hun; exact hun
      · rw [Array.setIfInBounds_comm _ _ e]
        exact hb.2.2
theorem call_take {i : Nat} {oi : Oper} {v : Value} {n : Nat} {listed : Array Bool} {a : Act} {w : World} (hi : ops[i]? = some oi)
    (hs : Region.noSelect ops = true) (hf : Region.free md ops listed i = true) (hr : (Region.ready md ops listed).contains i = true)
    (hQ : ∀ c a w, Q (.panic c) (a.put oi.dst v) w → Q (.panic c) a w) (hy : CallsTo P ops S oi v a)
    (h : wpE P md ops Q S n (listed.setIfInBounds i true) (a.put oi.dst v) w) : wpE P md ops Q S (n + 1) listed a w :=
  call_first hi (Region.noSelect_spec hs) hQ n listed a w (Region.free_spec hi hf) (by simpa using hr) (.inl hy) h
theorem skip_take {i : Nat} {oi : Oper} {n : Nat} {listed : Array Bool} {a : Act} {w : World} (hi : ops[i]? = some oi)
    (hs : Region.noSelect ops = true) (hf : Region.free md ops listed i = true) (hr : (Region.ready md ops listed).contains i = true)
    (hQ : ∀ c a w, Q (.panic c) (a.put oi.dst undef) w → Q (.panic c) a w) (hw : Region.wanted oi (yielded ops a.tmps) = false)
    (h : wpE P md ops Q S n (listed.setIfInBounds i true) (a.put oi.dst undef) w) : wpE P md ops Q S (n + 1) listed a w :=
  call_first hi (Region.noSelect_spec hs) hQ n listed a w (Region.free_spec hi hf) (by simpa using hr) (.inr ⟨hw, rfl⟩) h
/-- One operation alone may come up. -/
theorem E_one {i : Nat} {oi : Oper} {n : Nat} {listed : Array Bool} {a : Act} {w : World} (hi : ops[i]? = some oi) (hr : Region.ready md ops listed = [i])
    (h : ∀ w', Ext S w w' → ∀ K : Act → World → Prop, (∀ b u, S u → wpE P md ops Q S n (listed.setIfInBounds i true) b u → K b u) → if Region.wanted oi (yielded ops a.tmps) = true then Oper.wp P oi a w' K Q else K (a.put oi.dst undef) w') :
    wpE P md ops Q S (n + 1) listed a w := by
  intro u hu
  refine ⟨fun h0 => absurd (hr ▸ h0) (by simp), fun j hj => ?_⟩
  rw [hr] at hj
  obtain rfl : j = i := by simpa using hj
  exact wpOp_step hi fun K hK => h u hu K fun b t h1 h2 => hK b t ⟨h1, h2⟩
theorem E_two {i j : Nat} {oi oj : Oper} {n : Nat} {listed : Array Bool} {a : Act} {w : World} (hi : ops[i]? = some oi) (hj : ops[j]? = some oj) (hr : Region.ready md ops listed = [i, j])
    (h : ∀ w', Ext S w w' → ∀ K : Act → World → Prop, (∀ b u, S u → wpE P md ops Q S n (listed.setIfInBounds i true) b u → K b u) → if Region.wanted oi (yielded ops a.tmps) = true then Oper.wp P oi a w' K Q else K (a.put oi.dst undef) w')
    (h' : ∀ w', Ext S w w' → ∀ K : Act → World → Prop, (∀ b u, S u → wpE P md ops Q S n (listed.setIfInBounds j true) b u → K b u) → if Region.wanted oj (yielded ops a.tmps) = true then Oper.wp P oj a w' K Q else K (a.put oj.dst undef) w') :
    wpE P md ops Q S (n + 1) listed a w := by
  intro u hu
  refine ⟨fun h0 => absurd (hr ▸ h0) (by simp), fun k hk => ?_⟩
  rw [hr] at hk
  have hk' : k = i ∨ k = j := by simpa using hk
  rcases hk' with rfl | rfl
  · exact wpOp_step hi fun K hK => h u hu K fun b t h1 h2 => hK b t ⟨h1, h2⟩
  · exact wpOp_step hj fun K hK => h' u hu K fun b t h1 h2 => hK b t ⟨h1, h2⟩
theorem E_done {listed : Array Bool} {a : Act} {w : World} (hr : Region.ready md ops listed = []) (h : ∀ w', Ext S w w' → Q .normal a w') : ∀ n, wpE P md ops Q S n listed a w
  | 0 => fun u hu => ⟨hr, h u hu⟩
  | _ + 1 => fun u hu => ⟨fun _ => h u hu, fun j hj => by rw [hr] at hj; cases hj⟩
theorem E_start {id : Nat} {a : Act} {w : World} (hm : P.follows .mixedOrders = true) (hS : S w.drew) (h : wpE P .any ops Q S ops.size (Array.replicate ops.size false) a w.drew) : (Code.region id ops true).wp P Q a w :=
  wp_region_held_drew hm hS fun hS => held_of_E _ _ _ _ hS h
end
end Go.Proofs.Ytmmgbofhbnflkaa
