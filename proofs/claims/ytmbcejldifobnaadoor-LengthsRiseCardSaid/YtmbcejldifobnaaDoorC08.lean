import Derived.Test.YtmbcejldifobnaaDoorC07
import Derived.Laws.Externs
namespace Go.Proofs.YtmbcejldifobnaaDoor
open Go.RowKit Tp Sp
def acts (b : Array Value) : List (Nat × Value) → Act
  | [] => ⟨b, []⟩
  | p :: ps => (acts b ps).put (some p.1) p.2
def putX (ps : List (Nat × Value)) (d : Option Nat) (v : Value) : List (Nat × Value) := match d with | some k => (k, v) :: ps | none => ps
def look (n : Nat) (b : Array Value) : List (Nat × Value) → Nat → Value
  | [], t => b.getD t undef
  | p :: ps, t => bif Nat.beq p.1 t && Nat.blt p.1 n then p.2 else look n b ps t
def evA (n : Nat) (b : Array Value) (ps : List (Nat × Value)) : Operand → Value
  | .tmp t => look n b ps t
  | .const v => v
  | .global g => .pointer (some ⟨g, 0, none⟩)
  | .func f => .func (.func f) #[] #[]
def yieldA (ops : Array Oper) (n : Nat) (b : Array Value) (ps : List (Nat × Value)) (j : Nat) : Option Bool :=
  match ops[j]?.bind fun x => x.dst with
  | some d => match look n b ps d with
    | .bool c => some c
    | _ => none
  | none => none
theorem acts_size {b : Array Value} : ∀ ps, (acts b ps).tmps.size = b.size
  | [] => rfl
  | p :: ps => by show ((acts b ps).tmps.setIfInBounds p.1 p.2).size = _; rw [Array.size_setIfInBounds]; exact acts_size ps
theorem acts_get {n : Nat} {b : Array Value} (hb : b.size = n) : ∀ ps t, (acts b ps).tmps.getD t undef = look n b ps t
  | [], _ => rfl
  | p :: ps, t => by
    have ih := acts_get hb ps t
    show ((acts b ps).tmps.setIfInBounds p.1 p.2).getD t undef = bif Nat.beq p.1 t && Nat.blt p.1 n then p.2 else look n b ps t
    have hs := acts_size (b := b) ps
    rw [hb] at hs
    rw [Array.getD_eq_getD_getElem?, Array.getElem?_setIfInBounds]
    by_cases h1 : p.1 = t
    · by_cases h2 : p.1 < n
      · rw [if_pos h1, if_pos (by omega)]
        have e1 : Nat.beq p.1 t = true := by rw [h1]; exact Nat.beq_refl t
        have e2 : Nat.blt p.1 n = true := Nat.ble_eq_true_of_le h2
        rw [e1, e2]; rfl
      · rw [if_pos h1, if_neg (by omega)]
        have e2 : Nat.blt p.1 n = false := by
          cases h : Nat.blt p.1 n
          · rfl
          · exact absurd (Nat.le_of_ble_eq_true h) h2
        rw [e2, Bool.and_false, ← ih, Array.getD_eq_getD_getElem?, Array.getElem?_eq_none (by omega)]
        rfl
    · rw [if_neg h1]
      have e1 : Nat.beq p.1 t = false := by
        cases h : Nat.beq p.1 t
        · rfl
        · exact absurd (Nat.eq_of_beq_eq_true h) h1
      rw [e1, Bool.false_and, ← ih, Array.getD_eq_getD_getElem?]
      rfl
theorem acts_eval {n : Nat} {b : Array Value} (hb : b.size = n) (ps : List (Nat × Value)) : (acts b ps).eval = evA n b ps := by
  funext x
  cases x with
  | tmp t => exact acts_get hb ps t
  | const v => rfl
  | global g => rfl
  | func f => rfl
theorem acts_yield {n : Nat} {b : Array Value} (hb : b.size = n) (ops : Array Oper) (ps : List (Nat × Value)) : yielded ops (acts b ps).tmps = yieldA ops n b ps := by
  funext j
  unfold yielded yieldA
  cases h : ops[j]?.bind fun x => x.dst with
  | none => rfl
  | some d =>
    show (match (acts b ps).tmps[d]? with | some (.bool c) => some c | _ => none) = _
    have e := acts_get hb ps d
    rw [Array.getD_eq_getD_getElem?] at e
    show _ = match look n b ps d with | .bool c => some c | _ => none
    rw [← e]
    cases (acts b ps).tmps[d]? with
    | none => rfl
    | some v => cases v <;> rfl
theorem acts_put {b : Array Value} {ps : List (Nat × Value)} {d : Option Nat} {v : Value} : (acts b ps).put d v = acts b (putX ps d v) := by cases d <;> rfl
section
variable {P : Program} {ops : Array Oper} {rest : List Oper} {o : Oper} {n : Nat} {b : Array Value} {ps : List (Nat × Value)} {w w0 : World} {Q : Exit → Act → World → Prop} {rows : List (Nat × TypeId × List Value)}
theorem ax_in {c : Code} (h : Boxw (c.wp P Q (acts b []) w)) : Boxw (c.wp P Q ⟨b, []⟩ w) := h
theorem ax_re {e : Exit} (h : Boxw (Q e (acts b []) w)) : Boxw (Q e ⟨b, []⟩ w) := h
theorem ax_yes {c : Operand} {x y : Code} (hb : b.size = n) (hc : evA n b ps c = .bool true) (h : Boxw (x.wp P Q (acts b ps) w)) : Boxw ((Code.cond c x y).wp P Q (acts b ps) w) := aw_yes (by rw [acts_eval hb]; exact hc) h
theorem ax_no {c : Operand} {x y : Code} (hb : b.size = n) (hc : evA n b ps c = .bool false) (h : Boxw (y.wp P Q (acts b ps) w)) : Boxw ((Code.cond c x y).wp P Q (acts b ps) w) := aw_no (by rw [acts_eval hb]; exact hc) h
theorem ax_pass (hb : b.size = n) (hw : Region.wanted o (yieldA ops n b ps) = false) (h : Boxw (wpList P ops Q rest (acts b (putX ps o.dst undef)) w)) : Boxw (wpList P ops Q (o :: rest) (acts b ps) w) := aw_pass (by rw [acts_yield hb]; exact hw) (by rw [acts_put]; exact h)
theorem ax_val {v : Value} (v' : Value) (hb : b.size = n) (hw : Region.wanted o (yieldA ops n b ps) = true) (hr : (execOp (evA n b ps) o).run P w = .ok (.value v) w) (hv : v = v') (h : Boxw (wpList P ops Q rest (acts b (putX ps o.dst v')) w)) : Boxw (wpList P ops Q (o :: rest) (acts b ps) w) :=
  aw_val v' (by rw [acts_yield hb]; exact hw) (by rw [acts_eval hb]; exact hr) hv (by rw [acts_put]; exact h)
theorem ax_fork (c : Bool) (hb : b.size = n) (hw : Region.wanted o (yieldA ops n b ps) = true) (hr : (execOp (evA n b ps) o).run P w = .ok (.value (.bool c)) w)
    (ht : c = true → Boxw (wpList P ops Q rest (acts b (putX ps o.dst (.bool true))) w)) (hf : c = false → Boxw (wpList P ops Q rest (acts b (putX ps o.dst (.bool false))) w)) : Boxw (wpList P ops Q (o :: rest) (acts b ps) w) :=
  aw_fork c (by rw [acts_yield hb]; exact hw) (by rw [acts_eval hb]; exact hr) (fun h => by rw [acts_put]; exact ht h) (fun h => by rw [acts_put]; exact hf h)
theorem ax_new (ty : TypeId) (cs : List Value) (hb : b.size = n) (hl : Loc w0 rows w) (hw : Region.wanted o (yieldA ops n b ps) = true) (hr : (execOp (evA n b ps) o).run P w = .ok (.value (.pointer (some ⟨w.heap.size, 0, none⟩))) (w.alloc (.cells cs.toArray ty)))
    (h : ∀ g w', Loc w0 ((g, ty, cs) :: rows) w' → Boxw (wpList P ops Q rest (acts b (putX ps o.dst (.pointer (some ⟨g, 0, none⟩)))) w')) : Boxw (wpList P ops Q (o :: rest) (acts b ps) w) :=
  aw_new ty cs hl (by rw [acts_yield hb]; exact hw) (by rw [acts_eval hb]; exact hr) (fun g w' hl' => by rw [acts_put]; exact h g w' hl')
theorem ax_newS (ty : TypeId) (cs : List Value) (m c : Nat) (hb : b.size = n) (hl : Loc w0 rows w) (hw : Region.wanted o (yieldA ops n b ps) = true) (hr : (execOp (evA n b ps) o).run P w = .ok (.value (.slice (some ⟨w.heap.size, 0, none⟩) m c)) (w.alloc (.cells cs.toArray ty)))
    (h : ∀ g w', Loc w0 ((g, ty, cs) :: rows) w' → Boxw (wpList P ops Q rest (acts b (putX ps o.dst (.slice (some ⟨g, 0, none⟩) m c))) w')) : Boxw (wpList P ops Q (o :: rest) (acts b ps) w) :=
  aw_newS ty cs m c hl (by rw [acts_yield hb]; exact hw) (by rw [acts_eval hb]; exact hr) (fun g w' hl' => by rw [acts_put]; exact h g w' hl')
theorem ax_load (ty : TypeId) (x : Operand) (i g k : Nat) (t0 : TypeId) (cs : List Value) (v : Value) (d : TypeDesc) (hb : b.size = n) (hl : Loc w0 rows w) (hw : Region.wanted o (yieldA ops n b ps) = true) (ho : o.op = .load ty x) (hx : evA n b ps x = .pointer (some ⟨g, k, none⟩))
    (hi : rows[i]? = some (g, t0, cs)) (hv : cs[k]? = some v) (hu : P.underlying ty = some d) (hd : d.isRow = false)
    (h : Boxw (wpList P ops Q rest (acts b (putX ps o.dst v)) w)) : Boxw (wpList P ops Q (o :: rest) (acts b ps) w) :=
  aw_load ty x i g k t0 cs v d hl (by rw [acts_yield hb]; exact hw) ho (by rw [acts_eval hb]; exact hx) hi hv hu hd (by rw [acts_put]; exact h)
theorem ax_loadA (ty : TypeId) (x : Operand) (A : Addr) (v : Value) (d : TypeDesc) (hb : b.size = n) (hw : Region.wanted o (yieldA ops n b ps) = true) (ho : o.op = .load ty x) (hx : evA n b ps x = .pointer (some A))
    (hv : w.cell? A = some v) (hu : P.underlying ty = some d) (hd : d.isRow = false)
    (h : Boxw (wpList P ops Q rest (acts b (putX ps o.dst v)) w)) : Boxw (wpList P ops Q (o :: rest) (acts b ps) w) :=
  aw_loadA ty x A v d (by rw [acts_yield hb]; exact hw) ho (by rw [acts_eval hb]; exact hx) hv hu hd (by rw [acts_put]; exact h)
theorem ax_mid (ty : TypeId) (x : Operand) (i g k : Nat) (t0 : TypeId) (cs part : List Value) (d : TypeDesc) (hb : b.size = n) (hl : Loc w0 rows w) (hw : Region.wanted o (yieldA ops n b ps) = true) (ho : o.op = .load ty x) (hx : evA n b ps x = .pointer (some ⟨g, k, none⟩))
    (hi : rows[i]? = some (g, t0, cs)) (hp : (cs.drop k).take part.length = part) (hu : P.underlying ty = some d) (hd : d.isRow = true) (hs : (P.info? ty).map (·.size) = some part.length)
    (h : Boxw (wpList P ops Q rest (acts b (putX ps o.dst (.agg part.toArray))) w)) : Boxw (wpList P ops Q (o :: rest) (acts b ps) w) :=
  aw_mid ty x i g k t0 cs part d hl (by rw [acts_yield hb]; exact hw) ho (by rw [acts_eval hb]; exact hx) hi hp hu hd hs (by rw [acts_put]; exact h)
theorem ax_store (ty : TypeId) (x y : Operand) (i g k : Nat) (t0 : TypeId) (cs vs cs' : List Value) (rows' : List (Nat × TypeId × List Value)) (hb : b.size = n) (hl : Loc w0 rows w) (hw : Region.wanted o (yieldA ops n b ps) = true) (ho : o.op = .store ty x y)
    (hx : evA n b ps x = .pointer (some ⟨g, k, none⟩)) (hy : (evA n b ps y).cells = vs.toArray) (hi : rows[i]? = some (g, t0, cs)) (hs : (P.info? ty).map (·.size) = some vs.length) (h1 : vs.all (·.oneCell') = true) (hk : k + vs.length ≤ cs.length)
    (hc : cs.take k ++ vs ++ cs.drop (k + vs.length) = cs') (hr : rows.set i (g, t0, cs') = rows')
    (h : ∀ w', Loc w0 rows' w' → Boxw (wpList P ops Q rest (acts b (putX ps o.dst undef)) w')) : Boxw (wpList P ops Q (o :: rest) (acts b ps) w) :=
  aw_store ty x y i g k t0 cs vs cs' rows' hl (by rw [acts_yield hb]; exact hw) ho (by rw [acts_eval hb]; exact hx) (by rw [acts_eval hb]; exact hy) hi hs h1 hk hc hr (fun w' hl' => by rw [acts_put]; exact h w' hl')
theorem ax_call (f : FuncId) (args : Array Value) (v : Value) (hb : b.size = n) (hl : Loc w0 rows w) (hw : Region.wanted o (yieldA ops n b ps) = true) (hr : (execOp (evA n b ps) o).run P w = .ok (.enter f args) w)
    (hc : Calls P f args w fun e w' => e = .returned v ∧ Below w.heap.size w w') (h : ∀ w', Loc w0 rows w' → Boxw (wpList P ops Q rest (acts b (putX ps o.dst v)) w')) : Boxw (wpList P ops Q (o :: rest) (acts b ps) w) :=
  aw_call f args v hl (by rw [acts_yield hb]; exact hw) (by rw [acts_eval hb]; exact hr) hc (fun w' hl' => by rw [acts_put]; exact h w' hl')
theorem ax_callb (f : FuncId) (args : Array Value) (c : Bool) (hb : b.size = n) (hl : Loc w0 rows w) (hw : Region.wanted o (yieldA ops n b ps) = true) (hr : (execOp (evA n b ps) o).run P w = .ok (.enter f args) w)
    (hc : Calls P f args w fun e w' => e = .returned (.bool c) ∧ Below w.heap.size w w') (ht : c = true → ∀ w', Loc w0 rows w' → Boxw (wpList P ops Q rest (acts b (putX ps o.dst (.bool true))) w')) (hf : c = false → ∀ w', Loc w0 rows w' → Boxw (wpList P ops Q rest (acts b (putX ps o.dst (.bool false))) w')) : Boxw (wpList P ops Q (o :: rest) (acts b ps) w) :=
  aw_callb f args c hl (by rw [acts_yield hb]; exact hw) (by rw [acts_eval hb]; exact hr) hc (fun h w' hl' => by rw [acts_put]; exact ht h w' hl') (fun h w' hl' => by rw [acts_put]; exact hf h w' hl')
end
section
variable {P : Program} {ops : Array Oper} {oi : Oper} {m : Nat} {b : Array Value} {ps : List (Nat × Value)} {w w0 : World} {Q : Exit → Act → World → Prop} {rows rowsR : List (Nat × TypeId × List Value)} {n i : Nat} {listed : Array Bool}
theorem ay_val (i : Nat) (v' : Value) {v : Value} (hb : b.size = m) (hi : ops[i]? = some oi) (hs : Region.noSelect ops = true) (hf : Region.free .any ops listed i = true) (hr : (Region.ready .any ops listed).contains i = true)
    (hQ : ∀ c a w, Q (.panic c) (a.put oi.dst v) w → Q (.panic c) a w) (hw : Region.wanted oi (yieldA ops m b ps) = true) (he : ∀ u, Loc w0 rowsR u → (execOp (evA m b ps) oi).run P u = .ok (.value v) u) (hv : v = v')
    (h : Boxw (wpE P .any ops Q (Loc w0 rowsR) n (listed.setIfInBounds i true) (acts b (putX ps oi.dst v')) w)) : Boxw (wpE P .any ops Q (Loc w0 rowsR) (n + 1) listed (acts b ps) w) :=
  ad_val i v' hi hs hf hr hQ (by rw [acts_yield hb]; exact hw) (fun u hu => by rw [acts_eval hb]; exact he u hu) hv (by rw [acts_put]; exact h)
theorem ay_call (i : Nat) (f : FuncId) (args : Array Value) (v : Value) (hb : b.size = m) (hi : ops[i]? = some oi) (hs : Region.noSelect ops = true) (hf : Region.free .any ops listed i = true) (hr : (Region.ready .any ops listed).contains i = true)
    (hQ : ∀ c a w, Q (.panic c) (a.put oi.dst v) w → Q (.panic c) a w) (hw : Region.wanted oi (yieldA ops m b ps) = true) (he : ∀ u, (execOp (evA m b ps) oi).run P u = .ok (.enter f args) u)
    (hc : ∀ u, Loc w0 rowsR u → Calls P f args u fun e w' => e = .returned v ∧ Below u.heap.size u w')
    (h : Boxw (wpE P .any ops Q (Loc w0 rowsR) n (listed.setIfInBounds i true) (acts b (putX ps oi.dst v)) w)) : Boxw (wpE P .any ops Q (Loc w0 rowsR) (n + 1) listed (acts b ps) w) :=
  ad_call i f args v hi hs hf hr hQ (by rw [acts_yield hb]; exact hw) (fun u => by rw [acts_eval hb]; exact he u) hc (by rw [acts_put]; exact h)
theorem ay_load (i : Nat) (ty : TypeId) (x : Operand) (j g k : Nat) (t0 : TypeId) (cs : List Value) (v : Value) (d : TypeDesc) (hb : b.size = m) (hi : ops[i]? = some oi) (hs : Region.noSelect ops = true) (hf : Region.free .any ops listed i = true) (hr : (Region.ready .any ops listed).contains i = true)
    (hQ : ∀ c a w, Q (.panic c) (a.put oi.dst v) w → Q (.panic c) a w) (hw : Region.wanted oi (yieldA ops m b ps) = true) (ho : oi.op = .load ty x) (hx : evA m b ps x = .pointer (some ⟨g, k, none⟩))
    (hj : rowsR[j]? = some (g, t0, cs)) (hv : cs[k]? = some v) (hu : P.underlying ty = some d) (hd : d.isRow = false)
    (h : Boxw (wpE P .any ops Q (Loc w0 rowsR) n (listed.setIfInBounds i true) (acts b (putX ps oi.dst v)) w)) : Boxw (wpE P .any ops Q (Loc w0 rowsR) (n + 1) listed (acts b ps) w) :=
  ad_load i ty x j g k t0 cs v d hi hs hf hr hQ (by rw [acts_yield hb]; exact hw) ho (by rw [acts_eval hb]; exact hx) hj hv hu hd (by rw [acts_put]; exact h)
theorem ay_loadA (i : Nat) (ty : TypeId) (x : Operand) (A : Addr) (v : Value) (d : TypeDesc) (hb : b.size = m) (hi : ops[i]? = some oi) (hs : Region.noSelect ops = true) (hf : Region.free .any ops listed i = true) (hr : (Region.ready .any ops listed).contains i = true)
    (hQ : ∀ c a w, Q (.panic c) (a.put oi.dst v) w → Q (.panic c) a w) (hw : Region.wanted oi (yieldA ops m b ps) = true) (ho : oi.op = .load ty x) (hx : evA m b ps x = .pointer (some A))
    (hv : w0.cell? A = some v) (hlt : A.block < w0.heap.size) (hu : P.underlying ty = some d) (hd : d.isRow = false)
    (h : Boxw (wpE P .any ops Q (Loc w0 rowsR) n (listed.setIfInBounds i true) (acts b (putX ps oi.dst v)) w)) : Boxw (wpE P .any ops Q (Loc w0 rowsR) (n + 1) listed (acts b ps) w) :=
  ad_loadA i ty x A v d hi hs hf hr hQ (by rw [acts_yield hb]; exact hw) ho (by rw [acts_eval hb]; exact hx) hv hlt hu hd (by rw [acts_put]; exact h)
theorem ay_mid (i : Nat) (ty : TypeId) (x : Operand) (j g k : Nat) (t0 : TypeId) (cs part : List Value) (d : TypeDesc) (hb : b.size = m) (hi : ops[i]? = some oi) (hs : Region.noSelect ops = true) (hf : Region.free .any ops listed i = true) (hr : (Region.ready .any ops listed).contains i = true)
    (hQ : ∀ c a w, Q (.panic c) (a.put oi.dst (.agg part.toArray)) w → Q (.panic c) a w) (hw : Region.wanted oi (yieldA ops m b ps) = true) (ho : oi.op = .load ty x) (hx : evA m b ps x = .pointer (some ⟨g, k, none⟩))
    (hj : rowsR[j]? = some (g, t0, cs)) (hp : (cs.drop k).take part.length = part) (hu : P.underlying ty = some d) (hd : d.isRow = true) (hz : (P.info? ty).map (·.size) = some part.length)
    (h : Boxw (wpE P .any ops Q (Loc w0 rowsR) n (listed.setIfInBounds i true) (acts b (putX ps oi.dst (.agg part.toArray))) w)) : Boxw (wpE P .any ops Q (Loc w0 rowsR) (n + 1) listed (acts b ps) w) :=
  ad_mid i ty x j g k t0 cs part d hi hs hf hr hQ (by rw [acts_yield hb]; exact hw) ho (by rw [acts_eval hb]; exact hx) hj hp hu hd hz (by rw [acts_put]; exact h)
theorem bs_store (ty : TypeId) (x y : Operand) (j g k : Nat) (t0 : TypeId) (cs vs cs' : List Value) (rows' : List (Nat × TypeId × List Value)) (hb : b.size = m) (hi : ops[i]? = some oi) (hw : Region.wanted oi (yieldA ops m b ps) = true) (ho : oi.op = .store ty x y)
    (hx : evA m b ps x = .pointer (some ⟨g, k, none⟩)) (hy : (evA m b ps y).cells = vs.toArray) (hj : rows[j]? = some (g, t0, cs)) (hs : (P.info? ty).map (·.size) = some vs.length) (h1 : vs.all (·.oneCell') = true) (hk : k + vs.length ≤ cs.length)
    (hc : cs.take k ++ vs ++ cs.drop (k + vs.length) = cs') (hr : rows.set j (g, t0, cs') = rows') (hsub : rowsR.Sublist rows')
    (h : ∀ w', Loc w0 rows' w' → Boxw (wpE P .any ops Q (Loc w0 rowsR) n (listed.setIfInBounds i true) (acts b (putX ps oi.dst undef)) w')) : AdStep P ops Q w0 rows rowsR n listed (acts b ps) i :=
  as_store ty x y j g k t0 cs vs cs' rows' hi (by rw [acts_yield hb]; exact hw) ho (by rw [acts_eval hb]; exact hx) (by rw [acts_eval hb]; exact hy) hj hs h1 hk hc hr hsub (fun w' hl => by rw [acts_put]; exact h w' hl)
theorem bs_new (ty : TypeId) (cs : List Value) (hb : b.size = m) (hi : ops[i]? = some oi) (hw : Region.wanted oi (yieldA ops m b ps) = true) (hr : ∀ u, (execOp (evA m b ps) oi).run P u = .ok (.value (.pointer (some ⟨u.heap.size, 0, none⟩))) (u.alloc (.cells cs.toArray ty))) (hsub : rowsR.Sublist rows)
    (h : ∀ g w', Loc w0 ((g, ty, cs) :: rows) w' → Boxw (wpE P .any ops Q (Loc w0 rowsR) n (listed.setIfInBounds i true) (acts b (putX ps oi.dst (.pointer (some ⟨g, 0, none⟩)))) w')) : AdStep P ops Q w0 rows rowsR n listed (acts b ps) i :=
  as_new ty cs hi (by rw [acts_yield hb]; exact hw) (fun u => by rw [acts_eval hb]; exact hr u) hsub (fun g w' hl => by rw [acts_put]; exact h g w' hl)
end
end Go.Proofs.YtmbcejldifobnaaDoor

namespace Go.Proofs.YtmbcejldifobnaaDoor.Ln
open Sp
theorem le_of_mul_le {a b c : Int} (h : a * c ≤ b * c) (hc : 0 < c) : a ≤ b := Int.le_of_mul_le_mul_right h hc
theorem up_anti {a y z : Int} (ha : 0 ≤ a) (hy : 0 < y) (h : y ≤ z) : upI a z ≤ upI a y := by
  rw [up_le_iff (by omega)]
  have e1 := le_up (x := a) hy
  have h0 : 0 ≤ upI a y := by
    refine Int.le_of_not_gt fun hh => ?_
    have : upI a y * y < 0 := Int.mul_neg_of_neg_of_pos hh hy
    omega
  exact Int.le_trans e1 (Int.mul_le_mul_of_nonneg_left h h0)
theorem up_nonneg {a y : Int} (ha : 0 ≤ a) (hy : 0 < y) : 0 ≤ upI a y := by
  have e1 := le_up (x := a) hy
  refine Int.le_of_not_gt fun hh => ?_
  have : upI a y * y < 0 := Int.mul_neg_of_neg_of_pos hh hy
  omega
theorem up_le_self {a y : Int} (ha : 0 ≤ a) (hy : 1 ≤ y) : upI a y ≤ a := by
  rw [up_le_iff (by omega)]
  have := Int.mul_le_mul_of_nonneg_left hy ha
  rwa [Int.mul_one] at this
theorem quot_pos {a b : Int × Int} (h1 : 0 ≤ a.1) (h2 : 0 ≤ a.2) (h3 : 1 ≤ b.1) (h4 : b.1 ≤ b.2) : quotW a b = (a.1 / b.2, upI a.2 b.1) := by
  have := ediv_anti h1 (show 0 < b.1 by omega) h4
  have := up_anti h2 (show 0 < b.1 by omega) h4
  unfold quotW
  exact Prod.ext (by show min _ _ = _; omega) (by show max _ _ = _; omega)
theorem ediv_le_self {a y : Int} (ha : 0 ≤ a) (hy : 1 ≤ y) : a / y ≤ a := by
  have := ediv_anti ha (show (0 : Int) < 1 by omega) hy
  rwa [Int.ediv_one] at this
theorem ediv_up {a y : Int} (hy : 0 < y) : a / y ≤ upI a y := by
  have e1 := le_up (x := a) hy
  have e2 := Int.ediv_mul_le a (show y ≠ 0 by omega)
  exact le_of_mul_le (c := y) (by omega) hy
theorem minW_pos {a b : Int × Int} (h1 : 0 ≤ a.1) (h2 : a.1 ≤ a.2) (h3 : 0 ≤ b.1) (h4 : b.1 ≤ b.2) : minW a b = a.1 * b.1 ∧ maxW a b = a.2 * b.2 := by
  have e1 := Int.mul_le_mul_of_nonneg_left h4 h1
  have e2 := Int.mul_le_mul_of_nonneg_right h2 h3
  have e3 := Int.mul_le_mul_of_nonneg_left h4 (show 0 ≤ a.2 by omega)
  have e4 := Int.mul_le_mul_of_nonneg_right h2 (show 0 ≤ b.2 by omega)
  unfold minW maxW
  omega
end Go.Proofs.YtmbcejldifobnaaDoor.Ln

namespace Go.Proofs.YtmbcejldifobnaaDoor.Sp
open Go.RowKit
def prV (p : Int) : Value := .agg #[.int .i64 (p / 18446744073709551616), .int .u64 (p % 18446744073709551616)]
def Fits (p : Int) : Prop := -170141183460469231731687303715884105727 ≤ p ∧ p ≤ 170141183460469231731687303715884105727

theorem mul64_any (x y : Int) (hx : 0 ≤ x ∧ x < 18446744073709551616) (hy : 0 ≤ y ∧ y < 18446744073709551616) (w : World) :
    Calls Tryd.prog 193 #[.int .u64 x, .int .u64 y] w fun e w' => e = .returned (.tuple #[.int .u64 (x * y / 18446744073709551616), .int .u64 (x * y % 18446744073709551616)]) ∧ w = w' := by
  obtain ⟨x, rfl⟩ := Int.eq_ofNat_of_zero_le hx.1
  obtain ⟨y, rfl⟩ := Int.eq_ofNat_of_zero_le hy.1
  refine (Tryd.bits_Mul64 x y (by omega) (by omega) w).mono fun e w' ⟨h1, h2⟩ => ⟨?_, h2.symm⟩
  rw [h1]
  rfl

theorem mul_bound {x y : Int} (hx : I64 x) (hy : I64 y) : -85070591730234615865843651857942052864 ≤ x * y ∧ x * y ≤ 85070591730234615865843651857942052864 := by
  have h : (x * y).natAbs ≤ 9223372036854775808 * 9223372036854775808 := by
    rw [Int.natAbs_mul]
    unfold I64 at hx hy
    exact Nat.mul_le_mul (by omega) (by omega)
  omega
theorem wrap64_mod {n p : Int} (hp : I64 p) (h : n % 18446744073709551616 = p % 18446744073709551616) : wrap64 n = p := by
  unfold I64 at hp; unfold wrap64; omega
theorem times_val {x y h l H : Int} (hx : I64 x) (hy : I64 y) (hh : h = IntKind.u64.wrap x * IntKind.u64.wrap y / 18446744073709551616) (hl : l = IntKind.u64.wrap x * IntKind.u64.wrap y % 18446744073709551616)
    (hH : H % 18446744073709551616 = (h - (if x < 0 then IntKind.u64.wrap y else 0) - (if y < 0 then IntKind.u64.wrap x else 0)) % 18446744073709551616) : (.agg #[.int .i64 (wrap64 H), .int .u64 l] : Value) = prV (x * y) := by
  obtain ⟨h1, h2⟩ := times_words x y (IntKind.u64.wrap x) (IntKind.u64.wrap y) (by rw [IntKind.wrap_u64]) (by rw [IntKind.wrap_u64]) hx hy
  have hb := mul_bound hx hy
  have e1 : wrap64 H = x * y / 18446744073709551616 := wrap64_mod (by unfold I64; omega) (by rw [hH, hh, h2])
  unfold prV
  rw [e1, hl, h1]

set_option maxRecDepth 100000 in
theorem times_any (x y : Int) (w : World) (hx : I64 x) (hy : I64 y) :
    Calls Tryd.prog 197 #[.int .i64 x, .int .i64 y] w fun e w' => e = .returned (prV (x * y)) ∧ Below w.heap.size w w' := by
  have hm := fun W => mul64_any (IntKind.u64.wrap x) (IntKind.u64.wrap y) (by rw [IntKind.wrap_u64]; omega) (by rw [IntKind.wrap_u64]; omega) W
  obtain ⟨h, hh⟩ : ∃ h, h = IntKind.u64.wrap x * IntKind.u64.wrap y / 18446744073709551616 := ⟨_, rfl⟩
  obtain ⟨l, hl⟩ : ∃ l, l = IntKind.u64.wrap x * IntKind.u64.wrap y % 18446744073709551616 := ⟨_, rfl⟩
  rw [← hh, ← hl] at hm
  have HM := Lib.hid hm
  have HH := Lib.hid hh
  have HL := Lib.hid hl
  have HX := Lib.hid hx
  have HY := Lib.hid hy
  clear hh hl hm hx hy
  by_cases h1 : x < 0 <;> by_cases h2 : y < 0
  · go_enter Tryd.func197, Tryd.ntmps197
    go_wp2_with fail
    refine (HM.out _).mono ?_
    rintro e w1 ⟨he, rfl⟩
    subst he
    go_wp2_with fail
    refine bodyPost_ret (v := .agg #[.int .i64 (wrap64 (IntKind.u64.wrap (IntKind.u64.wrap (h - IntKind.u64.wrap y) - IntKind.u64.wrap x))), .int .u64 l]) (by simp [results, Tryd.results197, go_sem]) rfl ⟨ret_val (times_val HX.out HY.out HH.out HL.out ?_), below_alloc w _⟩
    rw [if_pos h1, if_pos h2]; simp only [IntKind.wrap_u64]; omega
  · go_enter Tryd.func197, Tryd.ntmps197
    go_wp2_with fail
    refine (HM.out _).mono ?_
    rintro e w1 ⟨he, rfl⟩
    subst he
    go_wp2_with fail
    refine bodyPost_ret (v := .agg #[.int .i64 (wrap64 (IntKind.u64.wrap (h - IntKind.u64.wrap y))), .int .u64 l]) (by simp [results, Tryd.results197, go_sem]) rfl ⟨ret_val (times_val HX.out HY.out HH.out HL.out ?_), below_alloc w _⟩
    rw [if_pos h1, if_neg (by omega)]; simp only [IntKind.wrap_u64]; omega
  · go_enter Tryd.func197, Tryd.ntmps197
    go_wp2_with fail
    refine (HM.out _).mono ?_
    rintro e w1 ⟨he, rfl⟩
    subst he
    go_wp2_with fail
    refine bodyPost_ret (v := .agg #[.int .i64 (wrap64 (IntKind.u64.wrap (h - IntKind.u64.wrap x))), .int .u64 l]) (by simp [results, Tryd.results197, go_sem]) rfl ⟨ret_val (times_val HX.out HY.out HH.out HL.out ?_), below_alloc w _⟩
    rw [if_neg (by omega), if_pos h2]; simp only [IntKind.wrap_u64]; omega
  · go_enter Tryd.func197, Tryd.ntmps197
    go_wp2_with fail
    refine (HM.out _).mono ?_
    rintro e w1 ⟨he, rfl⟩
    subst he
    go_wp2_with fail
    refine bodyPost_ret (v := .agg #[.int .i64 (wrap64 h), .int .u64 l]) (by simp [results, Tryd.results197, go_sem]) rfl ⟨ret_val (times_val HX.out HY.out HH.out HL.out ?_), below_alloc w _⟩
    rw [if_neg (by omega), if_neg (by omega)]; omega

theorem pbelow_any (p q : Int) (w : World) :
    Calls Tryd.prog 198 #[prV p, prV q] w fun e w' => e = .returned (.bool (decide (p < q))) ∧ Below w.heap.size w w' := by
  have h1 : p / 18446744073709551616 * 18446744073709551616 + p % 18446744073709551616 = p := by omega
  have h2 : q / 18446744073709551616 * 18446744073709551616 + q % 18446744073709551616 = q := by omega
  have h3 := Int.emod_nonneg p (show (18446744073709551616 : Int) ≠ 0 by omega)
  have h4 := Int.emod_lt_of_pos p (show (0 : Int) < 18446744073709551616 by omega)
  have h5 := Int.emod_nonneg q (show (18446744073709551616 : Int) ≠ 0 by omega)
  have h6 := Int.emod_lt_of_pos q (show (0 : Int) < 18446744073709551616 by omega)
  unfold prV
  generalize p / 18446744073709551616 = ph at *
  generalize p % 18446744073709551616 = pl at *
  generalize q / 18446744073709551616 = qh at *
  generalize q % 18446744073709551616 = ql at *
  by_cases he : ph = qh
  · have hd : decide (p < q) = decide (pl < ql) := by
      by_cases h : pl < ql
      · rw [decide_eq_true h, decide_eq_true]; omega
      · rw [decide_eq_false h, decide_eq_false]; omega
    have q1 : (ph == qh) = true := by simp [he]
    rw [hd]
    clear hd h1 h2 h3 h4 h5 h6 he
    go_enter Tryd.func198, Tryd.ntmps198
    go_wp2_with fail
    go_ret
    exact ⟨rfl, below_alloc2 w _ _⟩
  · have hd : decide (p < q) = decide (ph < qh) := by
      by_cases h : ph < qh
      · rw [decide_eq_true h, decide_eq_true]; omega
      · rw [decide_eq_false h, decide_eq_false]; omega
    have q1 : (ph == qh) = false := by simp [he]
    rw [hd]
    clear hd h1 h2 h3 h4 h5 h6 he
    go_enter Tryd.func198, Tryd.ntmps198
    go_wp2_with fail
    go_ret
    exact ⟨rfl, below_alloc2 w _ _⟩

theorem xor_all_i64 {n : Int} (h : I64 n) : bits .xor .i64 (-1) n = -1 - n := by
  show IntKind.i64.wrap ((BitVec.ofInt 64 (-1) ^^^ BitVec.ofInt 64 n).toNat : Int) = _
  have h1 : BitVec.ofInt 64 (-1) = BitVec.allOnes 64 := by decide
  rw [h1, BitVec.allOnes_xor, BitVec.toNat_not, BitVec.toNat_ofInt, IntKind.wrap_i64]
  unfold I64 at h
  omega
theorem xor_all_u64 {n : Int} (h : 0 ≤ n ∧ n < 18446744073709551616) : bits .xor .u64 IntKind.u64.max n = 18446744073709551615 - n := by
  show IntKind.u64.wrap ((BitVec.ofInt 64 IntKind.u64.max ^^^ BitVec.ofInt 64 n).toNat : Int) = _
  have h1 : BitVec.ofInt 64 IntKind.u64.max = BitVec.allOnes 64 := by decide
  rw [h1, BitVec.allOnes_xor, BitVec.toNat_not, BitVec.toNat_ofInt, IntKind.wrap_u64]
  omega
theorem inv_val {p : Int} (hp : Fits p) : (.agg #[.int .i64 (bits .xor .i64 (-1) (p / 18446744073709551616)), .int .u64 (bits .xor .u64 IntKind.u64.max (p % 18446744073709551616))] : Value) = prV (-1 - p) := by
  unfold Fits at hp
  rw [xor_all_i64 (by unfold I64; omega), xor_all_u64 (by omega)]
  unfold prV
  rw [show -1 - p / 18446744073709551616 = (-1 - p) / 18446744073709551616 by omega, show 18446744073709551615 - p % 18446744073709551616 = (-1 - p) % 18446744073709551616 by omega]
theorem inverted_any (p : Int) (w : World) (hp : Fits p) :
    Calls Tryd.prog 202 #[prV p] w fun e w' => e = .returned (prV (-1 - p)) ∧ Below w.heap.size w w' := by
  rw [← inv_val hp]
  clear hp
  unfold prV
  generalize p / 18446744073709551616 = ph at *
  generalize p % 18446744073709551616 = pl at *
  go_enter Tryd.func202, Tryd.ntmps202
  go_wp2_with fail
  all_goals first
    | (refine bodyPost_ret (v := .agg #[.int .i64 (bits .xor .i64 (-1) ph), .int .u64 (bits .xor .u64 IntKind.u64.max pl)]) (by simp [results, Tryd.results202, go_sem]) rfl ⟨rfl, below_alloc2 w _ _⟩)
    | (exfalso; rename_i h; exact absurd rfl h)
    | (exfalso; rename_i h; cases h)
    | (exfalso; simp_all [IntKind.signed])

/-- The model's entry for math/bits.Sub64. -/
def sub64E : Array Value → Sem Value := fun args => do
  let (x, y, b) ← Extern.MathBitsCarry.three "Sub64" args
  pure (Extern.MathBitsCarry.pair ((x + Extern.MathBitsCarry.m64 - y - b) % Extern.MathBitsCarry.m64) (if x < y + b then 1 else 0))
theorem run_sub64E (x y b : Nat) (hb : b ≤ 1) (w : World) :
    (sub64E #[.int .u64 x, .int .u64 y, .int .u64 b]).run Tryd.prog w =
      .ok (.tuple #[.int .u64 (((x + 18446744073709551616 - y - b) % 18446744073709551616 : Nat) : Int), .int .u64 ((if x < y + b then 1 else 0 : Nat) : Int)]) w := by
  have : b = 0 ∨ b = 1 := by omega
  rcases this with rfl | rfl <;> rfl
theorem sub64_call (y L B : Int) (hy : 0 ≤ y ∧ y < 18446744073709551616) (hL : L = -y % 18446744073709551616) (hB : B = if y = 0 then 0 else 1) (w : World) :
    (callFunc 206 #[.int .u64 0, .int .u64 y, .int .u64 0]).run Tryd.prog w = .ok (.value (.tuple #[.int .u64 L, .int .u64 B])) w := by
  obtain ⟨y, rfl⟩ := Int.eq_ofNat_of_zero_le hy.1
  have h := run_sub64E 0 y 0 (by omega) w
  rw [run_callFunc_extern Tryd.func206 (by kernel_rfl) (by kernel_rfl) (by kernel_rfl) (e := sub64E) (by kernel_rfl)]
  rw [show ((0 : Nat) : Int) = 0 from rfl] at h
  rw [h]
  have e1 : L = (((0 + 18446744073709551616 - y - 0) % 18446744073709551616 : Nat) : Int) := by rw [hL]; omega
  have e2 : B = ((if 0 < y + 0 then 1 else 0 : Nat) : Int) := by
    rw [hB]
    by_cases h0 : y = 0
    · subst h0; rfl
    · rw [if_neg (by omega), if_pos (by omega)]; rfl
  rw [e1, e2]
  rfl
theorem neg_val {p B : Int} (hp : Fits p) (hB : B = if p % 18446744073709551616 = 0 then 0 else 1) :
    (.agg #[.int .i64 (wrap64 (wrap64 (-(p / 18446744073709551616)) - wrap64 B)), .int .u64 (-(p % 18446744073709551616) % 18446744073709551616)] : Value) = prV (-p) := by
  unfold Fits at hp
  unfold prV
  have e : wrap64 (wrap64 (-(p / 18446744073709551616)) - wrap64 B) = -p / 18446744073709551616 := by
    unfold wrap64
    by_cases h : p % 18446744073709551616 = 0
    · rw [if_pos h] at hB; omega
    · rw [if_neg h] at hB; omega
  rw [e, show -(p % 18446744073709551616) % 18446744073709551616 = -p % 18446744073709551616 by omega]

set_option maxRecDepth 100000 in
theorem negative_any (p : Int) (w : World) (hp : Fits p) :
    Calls Tryd.prog 204 #[prV p] w fun e w' => e = .returned (prV (-p)) ∧ Below w.heap.size w w' := by
  obtain ⟨B, hB⟩ : ∃ B, B = if p % 18446744073709551616 = 0 then (0 : Int) else 1 := ⟨_, rfl⟩
  have hc := sub64_call (p % 18446744073709551616) _ B (by omega) rfl hB
  rw [← neg_val hp hB]
  clear hp hB
  unfold prV
  generalize -(p % 18446744073709551616) % 18446744073709551616 = nl at *
  generalize p % 18446744073709551616 = pl at *
  generalize p / 18446744073709551616 = ph at *
  go_enter Tryd.func204, Tryd.ntmps204
  go_wp2_with (simp only [hc])
  refine bodyPost_ret (v := .agg #[.int .i64 (wrap64 (wrap64 (-ph) - wrap64 B)), .int .u64 nl]) (by simp [results, Tryd.results204, go_sem]) rfl ⟨rfl, below_alloc2 w _ _⟩
end Go.Proofs.YtmbcejldifobnaaDoor.Sp

namespace Go.Proofs.YtmbcejldifobnaaDoor.Sp
open Go.RowKit
theorem bl_spec : ∀ (f x : Nat), 0 < x → x < 2 ^ f → 2 ^ (Lib.bitLenAux f x) ≤ 2 * x ∧ x < 2 ^ (Lib.bitLenAux f x) ∧ Lib.bitLenAux f x ≤ f
  | 0, x, h0, h => by omega
  | f + 1, x, h0, h => by
    unfold Lib.bitLenAux
    rw [if_neg (by omega), Nat.add_comm 1, Nat.pow_succ]
    by_cases h1 : x = 1
    · subst h1
      have : Lib.bitLenAux f (1 / 2) = 0 := by cases f <;> rfl
      rw [this]
      omega
    · obtain ⟨a, b, c⟩ := bl_spec f (x / 2) (by omega) (by rw [Nat.pow_succ] at h; omega)
      omega
theorem bl_shift {y : Nat} (h0 : 0 < y) (h : y < 18446744073709551616) : ∃ s : Nat, (64 - (Lib.bitLen y : Int)) = s ∧ s ≤ 63 ∧ 9223372036854775808 ≤ y * 2 ^ s ∧ y * 2 ^ s < 18446744073709551616 := by
  obtain ⟨a, b, c⟩ := bl_spec 64 y h0 h
  have hb : Lib.bitLen y = Lib.bitLenAux 64 y := rfl
  rw [hb]
  generalize Lib.bitLenAux 64 y = n at *
  have hn : n ≠ 0 := by rintro rfl; omega
  refine ⟨64 - n, by omega, by omega, ?_, ?_⟩
  · have e : (2 : Nat) ^ 64 = 2 ^ n * 2 ^ (64 - n) := by rw [← Nat.pow_add]; congr 1; omega
    have h1 : 2 ^ n * 2 ^ (64 - n) ≤ 2 * y * 2 ^ (64 - n) := Nat.mul_le_mul_right _ a
    rw [← e, Nat.mul_assoc] at h1
    have : (2 : Nat) ^ 64 = 18446744073709551616 := rfl
    omega
  · have e : (2 : Nat) ^ 64 = 2 ^ n * 2 ^ (64 - n) := by rw [← Nat.pow_add]; congr 1; omega
    have h1 : y * 2 ^ (64 - n) < 2 ^ n * 2 ^ (64 - n) := Nat.mul_lt_mul_of_pos_right b (Nat.pos_of_ne_zero (by simp))
    rw [← e] at h1
    exact h1

set_option maxRecDepth 100000 in
set_option maxHeartbeats 2000000 in
theorem div64_zero (lo y : Nat) (w : World) (hlo : lo < 18446744073709551616) (hy : 0 < y) (hy' : y < 18446744073709551616) :
    Calls Tryd.prog 203 #[.int .u64 0, .int .u64 (lo : Int), .int .u64 (y : Int)] w fun e w' => e = .returned (.tuple #[.int .u64 ((lo / y : Nat) : Int), .int .u64 ((lo % y : Nat) : Int)]) ∧ Below w.heap.size w w' := by
  have q1 : ((y : Int) == 0) = false := by simp; omega
  have q2 : ¬ (y : Int) ≤ 0 := by omega
  go_enter Tryd.func203, Tryd.ntmps203
  go_wp2_with fail
  go_quiet (fail)
  go_wp2_with fail
  have e1 : IntKind.u64.wrap ((lo : Int) / (y : Int)) = ((lo / y : Nat) : Int) := by
    have : lo / y ≤ lo := Nat.div_le_self _ _
    rw [← Int.natCast_ediv, IntKind.wrap_u64]
    generalize lo / y = d at *
    omega
  go_ret2
  refine ⟨?_, below_drewN w nq⟩
  rw [e1]
  rfl

/-- What Div64 makes of its arguments: all are shifted until the divisor has 64 bits. -/
structure Norm (hi lo y s Y Z y1 y0 U u v q r : Nat) : Prop where
  eY : IntKind.u64.wrap ((y : Int) * 2 ^ s) = (Y : Int)
  eZ : IntKind.u64.wrap ((lo : Int) * 2 ^ s) = (Z : Int)
  ey1 : (Y : Int) / 4294967296 = (y1 : Int)
  ey0 : bits .and .u64 (Y : Int) 4294967295 = (y0 : Int)
  eU : bits .or .u64 (IntKind.u64.wrap ((hi : Int) * 2 ^ s)) ((lo : Int) / 2 ^ (64 - s)) = (U : Int)
  eu : (Z : Int) / 4294967296 = (u : Int)
  ev : bits .and .u64 (Z : Int) 4294967295 = (v : Int)
  eq : IntKind.u64.wrap ((U : Int) / (y1 : Int)) = (q : Int)
  er : IntKind.u64.wrap ((U : Int) - IntKind.u64.wrap ((q : Int) * (y1 : Int))) = (r : Int)
  dig : DigIn Y y1 y0 U u
  start : Dig Y y1 y0 U u q r
  hv : v < 4294967296
  quo : (hi * 18446744073709551616 + lo) / y = (U * 18446744073709551616 + (u * 4294967296 + v)) / Y
  rem : (hi * 18446744073709551616 + lo) % y * 2 ^ s = (U * 18446744073709551616 + (u * 4294967296 + v)) % Y
theorem u64_nat (n : Nat) : IntKind.u64.wrap (n : Int) = ((n % 18446744073709551616 : Nat) : Int) := by rw [IntKind.wrap_u64]; omega
theorem u64_nat_of {n : Nat} (h : n < 18446744073709551616) : IntKind.u64.wrap (n : Int) = (n : Int) := by rw [IntKind.wrap_u64]; omega
theorem quo_u64 {U y1 : Nat} (hU : U < 18446744073709551616) : IntKind.u64.wrap ((U : Int) / (y1 : Int)) = ((U / y1 : Nat) : Int) := by
  rw [← Int.natCast_ediv]
  exact u64_nat_of (Nat.lt_of_le_of_lt (Nat.div_le_self _ _) hU)
theorem rem_u64 {U y1 : Nat} (hU : U < 18446744073709551616) : IntKind.u64.wrap ((U : Int) - IntKind.u64.wrap (((U / y1 : Nat) : Int) * (y1 : Int))) = ((U % y1 : Nat) : Int) := by
  have h := Nat.div_add_mod U y1
  rw [← Int.natCast_mul, Nat.mul_comm]
  generalize y1 * (U / y1) = A at *
  rw [u64_nat_of (by omega), show (U : Int) - (A : Int) = ((U % y1 : Nat) : Int) by omega]
  exact u64_nat_of (by omega)
theorem next_u64 {Y y1 y0 U u : Nat} (h : DigIn Y y1 y0 U u) (hY : Y < 18446744073709551616) :
    IntKind.u64.wrap (IntKind.u64.wrap (IntKind.u64.wrap ((U : Int) * 4294967296) + (u : Int)) - IntKind.u64.wrap ((((U * 4294967296 + u) / Y : Nat) : Int) * (Y : Int))) = (((U * 4294967296 + u) % Y : Nat) : Int) := by
  have h1 := Nat.div_add_mod (U * 4294967296 + u) Y
  have h2 := Nat.mod_lt (U * 4294967296 + u) h.pos
  rw [← Int.natCast_mul, Nat.mul_comm ((U * 4294967296 + u) / Y)]
  generalize Y * ((U * 4294967296 + u) / Y) = A at *
  generalize (U * 4294967296 + u) % Y = B at *
  simp only [IntKind.wrap_u64]
  omega
theorem norm_of {hi lo y s : Nat} (hs : s ≤ 63) (h1 : 9223372036854775808 ≤ y * 2 ^ s) (h2 : y * 2 ^ s < 18446744073709551616) (hy : hi < y) (hlo : lo < 18446744073709551616) :
    ∃ Y Z y1 y0 U u v q r, Norm hi lo y s Y Z y1 y0 U u v q r := by
  have hK : 0 < 2 ^ s := Nat.pos_of_ne_zero (by simp)
  have hKL : 2 ^ s * 2 ^ (64 - s) = 18446744073709551616 := by rw [← Nat.pow_add, show s + (64 - s) = 64 by omega]
  have hL : 0 < 2 ^ (64 - s) := Nat.pos_of_ne_zero (by simp)
  have c1 : ((2 : Int) ^ s) = ((2 ^ s : Nat) : Int) := by rw [Int.natCast_pow]; rfl
  have c2 : ((2 : Int) ^ (64 - s)) = ((2 ^ (64 - s) : Nat) : Int) := by rw [Int.natCast_pow]; rfl
  have hlt : lo / 2 ^ (64 - s) < 2 ^ s := by rw [Nat.div_lt_iff_lt_mul hL, hKL]; exact hlo
  have hhi : hi * 2 ^ s + 2 ^ s ≤ y * 2 ^ s := by rw [← Nat.succ_mul]; exact Nat.mul_le_mul_right _ hy
  have hU : hi * 2 ^ s + lo / 2 ^ (64 - s) < y * 2 ^ s := by omega
  have hN : (hi * 18446744073709551616 + lo) * 2 ^ s = (hi * 2 ^ s + lo / 2 ^ (64 - s)) * 18446744073709551616 + lo * 2 ^ s % 18446744073709551616 := by
    have a := Nat.div_add_mod (lo * 2 ^ s) 18446744073709551616
    have b : lo * 2 ^ s / 18446744073709551616 = lo / 2 ^ (64 - s) := by
      rw [← hKL, Nat.mul_comm (2 ^ s), Nat.mul_div_mul_right _ _ hK]
    rw [b] at a
    rw [Nat.add_mul, Nat.add_mul]
    have e : hi * 18446744073709551616 * 2 ^ s = hi * 2 ^ s * 18446744073709551616 := by rw [Nat.mul_assoc, Nat.mul_assoc, Nat.mul_comm 18446744073709551616]
    rw [e]
    omega
  have hd := shifted_div (n := hi * 18446744073709551616 + lo) (y := y) hK
  have hor : bits .or .u64 (IntKind.u64.wrap ((hi : Int) * 2 ^ s)) ((lo : Int) / 2 ^ (64 - s)) = ((hi * 2 ^ s + lo / 2 ^ (64 - s) : Nat) : Int) := by
    rw [c1, c2, ← Int.natCast_mul, ← Int.natCast_ediv, u64_nat_of (by omega), u64_or_nat _ _ (by omega) (by omega)]
    congr 1
    rw [Nat.mul_comm hi]
    exact (Nat.two_pow_add_eq_or_of_lt hlt hi).symm
  have hdig : DigIn (y * 2 ^ s) (y * 2 ^ s / 4294967296) (y * 2 ^ s % 4294967296) (hi * 2 ^ s + lo / 2 ^ (64 - s)) (lo * 2 ^ s % 18446744073709551616 / 4294967296) :=
    ⟨by omega, by omega, by omega, by omega, hU, by omega⟩
  refine ⟨y * 2 ^ s, lo * 2 ^ s % 18446744073709551616, y * 2 ^ s / 4294967296, y * 2 ^ s % 4294967296, hi * 2 ^ s + lo / 2 ^ (64 - s), lo * 2 ^ s % 18446744073709551616 / 4294967296, lo * 2 ^ s % 18446744073709551616 % 4294967296, _, _,
    ⟨?_, ?_, by omega, Mul64.maskN _ h2, hor, by omega, Mul64.maskN _ (by omega), quo_u64 (by omega), rem_u64 (by omega), hdig, Dig.start hdig, by omega, ?_, ?_⟩⟩
  · rw [c1, ← Int.natCast_mul]; exact u64_nat_of h2
  · rw [c1, ← Int.natCast_mul]; exact u64_nat _
  · rw [← hd.1, hN]; congr 2; omega
  · rw [← hd.2, hN]; congr 2; omega

/-- What stands between both digits. -/
structure Second (U u v Y y1 y0 T U2 q2 r2 : Nat) : Prop where
  eU2 : IntKind.u64.wrap (IntKind.u64.wrap (IntKind.u64.wrap ((U : Int) * 4294967296) + (u : Int)) - IntKind.u64.wrap ((T : Int) * (Y : Int))) = (U2 : Int)
  eq2 : IntKind.u64.wrap ((U2 : Int) / (y1 : Int)) = (q2 : Int)
  er2 : IntKind.u64.wrap ((U2 : Int) - IntKind.u64.wrap ((q2 : Int) * (y1 : Int))) = (r2 : Int)
  dig : DigIn Y y1 y0 U2 v
  start : Dig Y y1 y0 U2 v q2 r2
  hT : T < 4294967296
  quo : (U * 18446744073709551616 + (u * 4294967296 + v)) / Y = T * 4294967296 + (U2 * 4294967296 + v) / Y
  rem : (U * 18446744073709551616 + (u * 4294967296 + v)) % Y = (U2 * 4294967296 + v) % Y
theorem second_of {U u v Y y1 y0 T : Nat} (h : DigIn Y y1 y0 U u) (hY : Y < 18446744073709551616) (hv : v < 4294967296) (hT : T = (U * 4294967296 + u) / Y) : ∃ U2 q2 r2, Second U u v Y y1 y0 T U2 q2 r2 := by
  have hd : DigIn Y y1 y0 ((U * 4294967296 + u) % Y) v := ⟨h.hy, h.h0, h.h1, h.h2, Nat.mod_lt _ h.pos, hv⟩
  have ht := two_digits (U := U) (u := u) (v := v) h.pos
  have hl := h.lt
  subst hT
  exact ⟨_, _, _, next_u64 h hY, quo_u64 (by have := hd.hU; omega), rem_u64 (by have := hd.hU; omega), hd, Dig.start hd, hl, ht.1, ht.2⟩
theorem last_of {hi lo y s Y Z y1 y0 U u v q r T U2 q2 r2 T2 : Nat} (g : Norm hi lo y s Y Z y1 y0 U u v q r) (h : Second U u v Y y1 y0 T U2 q2 r2) (hT2 : T2 = (U2 * 4294967296 + v) / Y) :
    T2 < 4294967296 ∧ ∃ R : Nat, IntKind.u64.wrap (IntKind.u64.wrap (IntKind.u64.wrap ((U2 : Int) * 4294967296) + (v : Int)) - IntKind.u64.wrap ((T2 : Int) * (Y : Int))) = (R : Int) ∧
      ((T : Int) * 4294967296 + (T2 : Int) = (((hi * 18446744073709551616 + lo) / y : Nat) : Int)) ∧ ((R : Int) / 2 ^ s = (((hi * 18446744073709551616 + lo) % y : Nat) : Int)) := by
  have hK : 0 < 2 ^ s := Nat.pos_of_ne_zero (by simp)
  have c1 : ((2 : Int) ^ s) = ((2 ^ s : Nat) : Int) := by rw [Int.natCast_pow]; rfl
  have h1 := g.dig
  have hl := h.dig.lt
  subst hT2
  refine ⟨hl, _, next_u64 h.dig (by have := h1.hy; have := h1.h0; have := h1.h2; omega), ?_, ?_⟩
  · rw [g.quo, h.quo]; omega
  · rw [← h.rem, ← g.rem, c1, ← Int.natCast_ediv, Nat.mul_div_cancel _ hK]

set_option maxRecDepth 100000 in
set_option maxHeartbeats 2000000 in
theorem div64_any (hi lo y : Nat) (w : World) (h0 : 0 < hi) (hlo : lo < 18446744073709551616) (hy : hi < y) (hy' : y < 18446744073709551616) :
    Calls Tryd.prog 203 #[.int .u64 (hi : Int), .int .u64 (lo : Int), .int .u64 (y : Int)] w fun e w' => e = .returned (.tuple #[.int .u64 (((hi * 18446744073709551616 + lo) / y : Nat) : Int), .int .u64 (((hi * 18446744073709551616 + lo) % y : Nat) : Int)]) ∧ Below w.heap.size w w' := by
  have q1 : ((y : Int) == 0) = false := by simp; omega
  have q2 : ¬ (y : Int) ≤ (hi : Int) := by omega
  have q3 : ((hi : Int) == 0) = false := by simp; omega
  obtain ⟨QQ, hQQ⟩ : ∃ QQ : Nat, QQ = (hi * 18446744073709551616 + lo) / y := ⟨_, rfl⟩
  obtain ⟨RR, hRR⟩ : ∃ RR : Nat, RR = (hi * 18446744073709551616 + lo) % y := ⟨_, rfl⟩
  have hQl : QQ < 18446744073709551616 := by
    rw [hQQ, Nat.div_lt_iff_lt_mul (by omega)]
    omega
  rw [← hQQ, ← hRR]
  have HQQ := Lib.hid hQQ
  have HRR := Lib.hid hRR
  clear hQQ hRR
  have hlz := fun w => Tryd.bits_LeadingZeros64 (y : Int) w (by omega) (by omega)
  obtain ⟨s, hs, hs63, hb1, hb2⟩ := bl_shift (show 0 < y by omega) hy'
  rw [show ((y : Int)).toNat = y by omega, hs] at hlz
  obtain ⟨Y, Z, y1, y0, U, u, v, q, r, g⟩ := norm_of hs63 hb1 hb2 hy hlo
  have HLZ := Lib.hid hlz
  have G := Lib.hid g
  have eY := g.eY
  have eZ := g.eZ
  have ey1 := g.ey1
  have ey0 := g.ey0
  have eU := g.eU
  have eu := g.eu
  have ev := g.ev
  have eq := g.eq
  have er := g.er
  have hy1 : ¬ (y1 : Int) = 0 := by have := g.dig.h1; omega
  clear hlz hs g hb1 hb2
  go_enter Tryd.func203, Tryd.ntmps203
  go_wp2_with fail
  refine (HLZ.out _).mono ?_
  rintro e w1 ⟨he, hw⟩
  subst he hw
  go_wp2_with fail
  clear eY eZ ey0 eU eu ev eq er q1 q2 q3
  go_loop [15, 16] (fun q r => ∃ Q R : Nat, q = .int .u64 (Q : Int) ∧ r = .int .u64 (R : Int) ∧ Dig Y y1 y0 U u Q R) (fun q _ => (intOf q).toNat)
  case atStart => exact ⟨q, r, rfl, rfl, G.out.start⟩
  case round =>
    obtain ⟨Q, R, rfl, rfl, hd⟩ := hrel
    have hdr := hd.hr
    have hdq := hd.hq
    have hdh1 := (G.out.dig).h1
    have hdh2 := (G.out.dig).h2
    have hdu := (G.out.dig).hu
    by_cases hQ1 : Q < 4294967296
    · have tq1 : decide ((4294967296 : Int) ≤ (Q : Int)) = false := decide_eq_false (by omega)
      have hpb := hd.bound (G.out.dig) hQ1
      obtain ⟨P, hP⟩ : ∃ P : Nat, P = Q * y0 := ⟨_, rfl⟩
      have Pi : (Q : Int) * (y0 : Int) = (P : Int) := by rw [hP]; exact (Int.natCast_mul _ _).symm
      rw [← hP] at hpb
      by_cases hc1 : P ≤ 4294967296 * R + u
      · have tp1 : decide (4294967296 * (R : Int) + (u : Int) < (P : Int)) = false := decide_eq_false (by omega)
        have hT1 := hd.done (G.out.dig) (by rw [← hP]; exact hc1)
        clear hd hP hc1
        obtain ⟨U2, q2, r2, s2⟩ := second_of G.out.dig (by have := G.out.dig.hy; have := G.out.dig.h0; have := G.out.dig.h2; omega) G.out.hv hT1
        have S2 := Lib.hid s2
        have eU2 := s2.eU2
        have eq2 := s2.eq2
        have er2 := s2.er2
        clear s2 hT1
        go_wp2_with fail
        clear eU2 eq2 er2
        go_loop [18, 16] (fun q r => ∃ Q R : Nat, q = .int .u64 (Q : Int) ∧ r = .int .u64 (R : Int) ∧ Dig Y y1 y0 U2 v Q R) (fun q _ => (intOf q).toNat)
        case atStart => exact ⟨q2, r2, rfl, rfl, S2.out.start⟩
        case round =>
          obtain ⟨Q2, R2, rfl, rfl, d2⟩ := hrel
          have d2r := d2.hr
          have d2q := d2.hq
          have d2h1 := (S2.out.dig).h1
          have d2h2 := (S2.out.dig).h2
          have d2u := (S2.out.dig).hu
          by_cases hQ2 : Q2 < 4294967296
          · have tq2 : decide ((4294967296 : Int) ≤ (Q2 : Int)) = false := decide_eq_false (by omega)
            have hpb := d2.bound (S2.out.dig) hQ2
            obtain ⟨P2, hP⟩ : ∃ P : Nat, P = Q2 * y0 := ⟨_, rfl⟩
            have P2i : (Q2 : Int) * (y0 : Int) = (P2 : Int) := by rw [hP]; exact (Int.natCast_mul _ _).symm
            rw [← hP] at hpb
            by_cases hc2 : P2 ≤ 4294967296 * R2 + v
            · have tp2 : decide (4294967296 * (R2 : Int) + (v : Int) < (P2 : Int)) = false := decide_eq_false (by omega)
              have hT2 := d2.done (S2.out.dig) (by rw [← hP]; exact hc2)
              clear d2 hP hc2
              obtain ⟨hl2, R3, e1, e2, e3⟩ := last_of G.out S2.out hT2
              rw [← HQQ.out] at e2
              rw [← HRR.out] at e3
              have hl1 := S2.out.hT
              clear hT2
              go_wp2_with fail
              go_ret2
              exact ⟨rfl, Below.refl _ _⟩
            · have tp2 : decide (4294967296 * (R2 : Int) + (v : Int) < (P2 : Int)) = true := decide_eq_true (by omega)
              have hor : 4294967296 ≤ Q2 ∨ ¬ Q2 * y0 ≤ 4294967296 * R2 + v := .inr (by rw [← hP]; exact hc2)
              have hpos := (d2.next (S2.out.dig) hor).1
              obtain ⟨T2, eT2n⟩ : ∃ T : Nat, T = Q2 - 1 := ⟨_, rfl⟩
              have eT2 : (Q2 : Int) - 1 = (T2 : Int) := by omega
              obtain ⟨R2', eR2n⟩ : ∃ T : Nat, T = R2 + y1 := ⟨_, rfl⟩
              have eR2 : (R2 : Int) + (y1 : Int) = (R2' : Int) := by omega
              by_cases hr2 : R2' < 4294967296
              · have tr2 : decide ((4294967296 : Int) ≤ (R2' : Int)) = false := decide_eq_false (by omega)
                have hgo := d2.go (S2.out.dig) hor (by rw [← eR2n]; exact hr2)
                rw [← eT2n, ← eR2n] at hgo
                have HGO := Lib.hid hgo
                clear hgo d2 hP hor hc2 eT2n eR2n
                go_wp2_with fail
                first
                  | exact ⟨⟨T2, R2', rfl, rfl, HGO.out⟩, by simp [intOf]; omega⟩
                  | (go_roundw
                     case rel => exact ⟨T2, R2', rfl, rfl, HGO.out⟩
                     case measure => simp [intOf]; omega)
                  | fail
              · have tr2 : decide ((4294967296 : Int) ≤ (R2' : Int)) = true := decide_eq_true (by omega)
                have hT2 := d2.stop (S2.out.dig) hor (by rw [← eR2n]; exact hr2)
                rw [← eT2n] at hT2
                clear d2 hP hor hc2 eT2n eR2n
                obtain ⟨hl2, R3, e1, e2, e3⟩ := last_of G.out S2.out hT2
                rw [← HQQ.out] at e2
                rw [← HRR.out] at e3
                have hl1 := S2.out.hT
                clear hT2
                go_wp2_with fail
                go_ret2
                exact ⟨rfl, Below.refl _ _⟩
          · have tq2 : decide ((4294967296 : Int) ≤ (Q2 : Int)) = true := decide_eq_true (by omega)
            have hor : 4294967296 ≤ Q2 ∨ ¬ Q2 * y0 ≤ 4294967296 * R2 + v := .inl (by omega)
            have hpos := (d2.next (S2.out.dig) hor).1
            obtain ⟨T2, eT2n⟩ : ∃ T : Nat, T = Q2 - 1 := ⟨_, rfl⟩
            have eT2 : (Q2 : Int) - 1 = (T2 : Int) := by omega
            obtain ⟨R2', eR2n⟩ : ∃ T : Nat, T = R2 + y1 := ⟨_, rfl⟩
            have eR2 : (R2 : Int) + (y1 : Int) = (R2' : Int) := by omega
            by_cases hr2 : R2' < 4294967296
            · have tr2 : decide ((4294967296 : Int) ≤ (R2' : Int)) = false := decide_eq_false (by omega)
              have hgo := d2.go (S2.out.dig) hor (by rw [← eR2n]; exact hr2)
              rw [← eT2n, ← eR2n] at hgo
              have HGO := Lib.hid hgo
              clear hgo d2 hor eT2n eR2n
              go_wp2_with fail
              first
                | exact ⟨⟨T2, R2', rfl, rfl, HGO.out⟩, by simp [intOf]; omega⟩
                | (go_roundw
                   case rel => exact ⟨T2, R2', rfl, rfl, HGO.out⟩
                   case measure => simp [intOf]; omega)
                | fail
            · have tr2 : decide ((4294967296 : Int) ≤ (R2' : Int)) = true := decide_eq_true (by omega)
              have hT2 := d2.stop (S2.out.dig) hor (by rw [← eR2n]; exact hr2)
              rw [← eT2n] at hT2
              clear d2 hor eT2n eR2n
              obtain ⟨hl2, R3, e1, e2, e3⟩ := last_of G.out S2.out hT2
              rw [← HQQ.out] at e2
              rw [← HRR.out] at e3
              have hl1 := S2.out.hT
              clear hT2
              go_wp2_with fail
              go_ret2
              exact ⟨rfl, Below.refl _ _⟩
      · have tp1 : decide (4294967296 * (R : Int) + (u : Int) < (P : Int)) = true := decide_eq_true (by omega)
        have hor : 4294967296 ≤ Q ∨ ¬ Q * y0 ≤ 4294967296 * R + u := .inr (by rw [← hP]; exact hc1)
        have hpos := (hd.next (G.out.dig) hor).1
        obtain ⟨T1, eT1n⟩ : ∃ T : Nat, T = Q - 1 := ⟨_, rfl⟩
        have eT1 : (Q : Int) - 1 = (T1 : Int) := by omega
        obtain ⟨R1', eR1n⟩ : ∃ T : Nat, T = R + y1 := ⟨_, rfl⟩
        have eR1 : (R : Int) + (y1 : Int) = (R1' : Int) := by omega
        by_cases hr1 : R1' < 4294967296
        · have tr1 : decide ((4294967296 : Int) ≤ (R1' : Int)) = false := decide_eq_false (by omega)
          have hgo := hd.go (G.out.dig) hor (by rw [← eR1n]; exact hr1)
          rw [← eT1n, ← eR1n] at hgo
          have HGO := Lib.hid hgo
          clear hgo hd hP hor hc1 eT1n eR1n
          go_wp2_with fail
          first
            | exact ⟨⟨T1, R1', rfl, rfl, HGO.out⟩, by simp [intOf]; omega⟩
            | (go_roundw
               case rel => exact ⟨T1, R1', rfl, rfl, HGO.out⟩
               case measure => simp [intOf]; omega)
            | fail
        · have tr1 : decide ((4294967296 : Int) ≤ (R1' : Int)) = true := decide_eq_true (by omega)
          have hT1 := hd.stop (G.out.dig) hor (by rw [← eR1n]; exact hr1)
          rw [← eT1n] at hT1
          clear hd hP hor hc1 eT1n eR1n
          obtain ⟨U2, q2, r2, s2⟩ := second_of G.out.dig (by have := G.out.dig.hy; have := G.out.dig.h0; have := G.out.dig.h2; omega) G.out.hv hT1
          have S2 := Lib.hid s2
          have eU2 := s2.eU2
          have eq2 := s2.eq2
          have er2 := s2.er2
          clear s2 hT1
          go_wp2_with fail
          clear eU2 eq2 er2
          go_loop [18, 16] (fun q r => ∃ Q R : Nat, q = .int .u64 (Q : Int) ∧ r = .int .u64 (R : Int) ∧ Dig Y y1 y0 U2 v Q R) (fun q _ => (intOf q).toNat)
          case atStart => exact ⟨q2, r2, rfl, rfl, S2.out.start⟩
          case round =>
            obtain ⟨Q2, R2, rfl, rfl, d2⟩ := hrel
            have d2r := d2.hr
            have d2q := d2.hq
            have d2h1 := (S2.out.dig).h1
            have d2h2 := (S2.out.dig).h2
            have d2u := (S2.out.dig).hu
            by_cases hQ2 : Q2 < 4294967296
            · have tq2 : decide ((4294967296 : Int) ≤ (Q2 : Int)) = false := decide_eq_false (by omega)
              have hpb := d2.bound (S2.out.dig) hQ2
              obtain ⟨P2, hP⟩ : ∃ P : Nat, P = Q2 * y0 := ⟨_, rfl⟩
              have P2i : (Q2 : Int) * (y0 : Int) = (P2 : Int) := by rw [hP]; exact (Int.natCast_mul _ _).symm
              rw [← hP] at hpb
              by_cases hc2 : P2 ≤ 4294967296 * R2 + v
              · have tp2 : decide (4294967296 * (R2 : Int) + (v : Int) < (P2 : Int)) = false := decide_eq_false (by omega)
                have hT2 := d2.done (S2.out.dig) (by rw [← hP]; exact hc2)
                clear d2 hP hc2
                obtain ⟨hl2, R3, e1, e2, e3⟩ := last_of G.out S2.out hT2
                rw [← HQQ.out] at e2
                rw [← HRR.out] at e3
                have hl1 := S2.out.hT
                clear hT2
                go_wp2_with fail
                go_ret2
                exact ⟨rfl, Below.refl _ _⟩
              · have tp2 : decide (4294967296 * (R2 : Int) + (v : Int) < (P2 : Int)) = true := decide_eq_true (by omega)
                have hor : 4294967296 ≤ Q2 ∨ ¬ Q2 * y0 ≤ 4294967296 * R2 + v := .inr (by rw [← hP]; exact hc2)
                have hpos := (d2.next (S2.out.dig) hor).1
                obtain ⟨T2, eT2n⟩ : ∃ T : Nat, T = Q2 - 1 := ⟨_, rfl⟩
                have eT2 : (Q2 : Int) - 1 = (T2 : Int) := by omega
                obtain ⟨R2', eR2n⟩ : ∃ T : Nat, T = R2 + y1 := ⟨_, rfl⟩
                have eR2 : (R2 : Int) + (y1 : Int) = (R2' : Int) := by omega
                by_cases hr2 : R2' < 4294967296
                · have tr2 : decide ((4294967296 : Int) ≤ (R2' : Int)) = false := decide_eq_false (by omega)
                  have hgo := d2.go (S2.out.dig) hor (by rw [← eR2n]; exact hr2)
                  rw [← eT2n, ← eR2n] at hgo
                  have HGO := Lib.hid hgo
                  clear hgo d2 hP hor hc2 eT2n eR2n
                  go_wp2_with fail
                  first
                    | exact ⟨⟨T2, R2', rfl, rfl, HGO.out⟩, by simp [intOf]; omega⟩
                    | (go_roundw
                       case rel => exact ⟨T2, R2', rfl, rfl, HGO.out⟩
                       case measure => simp [intOf]; omega)
                    | fail
                · have tr2 : decide ((4294967296 : Int) ≤ (R2' : Int)) = true := decide_eq_true (by omega)
                  have hT2 := d2.stop (S2.out.dig) hor (by rw [← eR2n]; exact hr2)
                  rw [← eT2n] at hT2
                  clear d2 hP hor hc2 eT2n eR2n
                  obtain ⟨hl2, R3, e1, e2, e3⟩ := last_of G.out S2.out hT2
                  rw [← HQQ.out] at e2
                  rw [← HRR.out] at e3
                  have hl1 := S2.out.hT
                  clear hT2
                  go_wp2_with fail
                  go_ret2
                  exact ⟨rfl, Below.refl _ _⟩
            · have tq2 : decide ((4294967296 : Int) ≤ (Q2 : Int)) = true := decide_eq_true (by omega)
              have hor : 4294967296 ≤ Q2 ∨ ¬ Q2 * y0 ≤ 4294967296 * R2 + v := .inl (by omega)
              have hpos := (d2.next (S2.out.dig) hor).1
              obtain ⟨T2, eT2n⟩ : ∃ T : Nat, T = Q2 - 1 := ⟨_, rfl⟩
              have eT2 : (Q2 : Int) - 1 = (T2 : Int) := by omega
              obtain ⟨R2', eR2n⟩ : ∃ T : Nat, T = R2 + y1 := ⟨_, rfl⟩
              have eR2 : (R2 : Int) + (y1 : Int) = (R2' : Int) := by omega
              by_cases hr2 : R2' < 4294967296
              · have tr2 : decide ((4294967296 : Int) ≤ (R2' : Int)) = false := decide_eq_false (by omega)
                have hgo := d2.go (S2.out.dig) hor (by rw [← eR2n]; exact hr2)
                rw [← eT2n, ← eR2n] at hgo
                have HGO := Lib.hid hgo
                clear hgo d2 hor eT2n eR2n
                go_wp2_with fail
                first
                  | exact ⟨⟨T2, R2', rfl, rfl, HGO.out⟩, by simp [intOf]; omega⟩
                  | (go_roundw
                     case rel => exact ⟨T2, R2', rfl, rfl, HGO.out⟩
                     case measure => simp [intOf]; omega)
                  | fail
              · have tr2 : decide ((4294967296 : Int) ≤ (R2' : Int)) = true := decide_eq_true (by omega)
                have hT2 := d2.stop (S2.out.dig) hor (by rw [← eR2n]; exact hr2)
                rw [← eT2n] at hT2
                clear d2 hor eT2n eR2n
                obtain ⟨hl2, R3, e1, e2, e3⟩ := last_of G.out S2.out hT2
                rw [← HQQ.out] at e2
                rw [← HRR.out] at e3
                have hl1 := S2.out.hT
                clear hT2
                go_wp2_with fail
                go_ret2
                exact ⟨rfl, Below.refl _ _⟩
    · have tq1 : decide ((4294967296 : Int) ≤ (Q : Int)) = true := decide_eq_true (by omega)
      have hor : 4294967296 ≤ Q ∨ ¬ Q * y0 ≤ 4294967296 * R + u := .inl (by omega)
      have hpos := (hd.next (G.out.dig) hor).1
      obtain ⟨T1, eT1n⟩ : ∃ T : Nat, T = Q - 1 := ⟨_, rfl⟩
      have eT1 : (Q : Int) - 1 = (T1 : Int) := by omega
      obtain ⟨R1', eR1n⟩ : ∃ T : Nat, T = R + y1 := ⟨_, rfl⟩
      have eR1 : (R : Int) + (y1 : Int) = (R1' : Int) := by omega
      by_cases hr1 : R1' < 4294967296
      · have tr1 : decide ((4294967296 : Int) ≤ (R1' : Int)) = false := decide_eq_false (by omega)
        have hgo := hd.go (G.out.dig) hor (by rw [← eR1n]; exact hr1)
        rw [← eT1n, ← eR1n] at hgo
        have HGO := Lib.hid hgo
        clear hgo hd hor eT1n eR1n
        go_wp2_with fail
        first
          | exact ⟨⟨T1, R1', rfl, rfl, HGO.out⟩, by simp [intOf]; omega⟩
          | (go_roundw
             case rel => exact ⟨T1, R1', rfl, rfl, HGO.out⟩
             case measure => simp [intOf]; omega)
          | fail
      · have tr1 : decide ((4294967296 : Int) ≤ (R1' : Int)) = true := decide_eq_true (by omega)
        have hT1 := hd.stop (G.out.dig) hor (by rw [← eR1n]; exact hr1)
        rw [← eT1n] at hT1
        clear hd hor eT1n eR1n
        obtain ⟨U2, q2, r2, s2⟩ := second_of G.out.dig (by have := G.out.dig.hy; have := G.out.dig.h0; have := G.out.dig.h2; omega) G.out.hv hT1
        have S2 := Lib.hid s2
        have eU2 := s2.eU2
        have eq2 := s2.eq2
        have er2 := s2.er2
        clear s2 hT1
        go_wp2_with fail
        clear eU2 eq2 er2
        go_loop [18, 16] (fun q r => ∃ Q R : Nat, q = .int .u64 (Q : Int) ∧ r = .int .u64 (R : Int) ∧ Dig Y y1 y0 U2 v Q R) (fun q _ => (intOf q).toNat)
        case atStart => exact ⟨q2, r2, rfl, rfl, S2.out.start⟩
        case round =>
          obtain ⟨Q2, R2, rfl, rfl, d2⟩ := hrel
          have d2r := d2.hr
          have d2q := d2.hq
          have d2h1 := (S2.out.dig).h1
          have d2h2 := (S2.out.dig).h2
          have d2u := (S2.out.dig).hu
          by_cases hQ2 : Q2 < 4294967296
          · have tq2 : decide ((4294967296 : Int) ≤ (Q2 : Int)) = false := decide_eq_false (by omega)
            have hpb := d2.bound (S2.out.dig) hQ2
            obtain ⟨P2, hP⟩ : ∃ P : Nat, P = Q2 * y0 := ⟨_, rfl⟩
            have P2i : (Q2 : Int) * (y0 : Int) = (P2 : Int) := by rw [hP]; exact (Int.natCast_mul _ _).symm
            rw [← hP] at hpb
            by_cases hc2 : P2 ≤ 4294967296 * R2 + v
            · have tp2 : decide (4294967296 * (R2 : Int) + (v : Int) < (P2 : Int)) = false := decide_eq_false (by omega)
              have hT2 := d2.done (S2.out.dig) (by rw [← hP]; exact hc2)
              clear d2 hP hc2
              obtain ⟨hl2, R3, e1, e2, e3⟩ := last_of G.out S2.out hT2
              rw [← HQQ.out] at e2
              rw [← HRR.out] at e3
              have hl1 := S2.out.hT
              clear hT2
              go_wp2_with fail
              go_ret2
              exact ⟨rfl, Below.refl _ _⟩
            · have tp2 : decide (4294967296 * (R2 : Int) + (v : Int) < (P2 : Int)) = true := decide_eq_true (by omega)
              have hor : 4294967296 ≤ Q2 ∨ ¬ Q2 * y0 ≤ 4294967296 * R2 + v := .inr (by rw [← hP]; exact hc2)
              have hpos := (d2.next (S2.out.dig) hor).1
              obtain ⟨T2, eT2n⟩ : ∃ T : Nat, T = Q2 - 1 := ⟨_, rfl⟩
              have eT2 : (Q2 : Int) - 1 = (T2 : Int) := by omega
              obtain ⟨R2', eR2n⟩ : ∃ T : Nat, T = R2 + y1 := ⟨_, rfl⟩
              have eR2 : (R2 : Int) + (y1 : Int) = (R2' : Int) := by omega
              by_cases hr2 : R2' < 4294967296
              · have tr2 : decide ((4294967296 : Int) ≤ (R2' : Int)) = false := decide_eq_false (by omega)
                have hgo := d2.go (S2.out.dig) hor (by rw [← eR2n]; exact hr2)
                rw [← eT2n, ← eR2n] at hgo
                have HGO := Lib.hid hgo
                clear hgo d2 hP hor hc2 eT2n eR2n
                go_wp2_with fail
                first
                  | exact ⟨⟨T2, R2', rfl, rfl, HGO.out⟩, by simp [intOf]; omega⟩
                  | (go_roundw
                     case rel => exact ⟨T2, R2', rfl, rfl, HGO.out⟩
                     case measure => simp [intOf]; omega)
                  | fail
              · have tr2 : decide ((4294967296 : Int) ≤ (R2' : Int)) = true := decide_eq_true (by omega)
                have hT2 := d2.stop (S2.out.dig) hor (by rw [← eR2n]; exact hr2)
                rw [← eT2n] at hT2
                clear d2 hP hor hc2 eT2n eR2n
                obtain ⟨hl2, R3, e1, e2, e3⟩ := last_of G.out S2.out hT2
                rw [← HQQ.out] at e2
                rw [← HRR.out] at e3
                have hl1 := S2.out.hT
                clear hT2
                go_wp2_with fail
                go_ret2
                exact ⟨rfl, Below.refl _ _⟩
          · have tq2 : decide ((4294967296 : Int) ≤ (Q2 : Int)) = true := decide_eq_true (by omega)
            have hor : 4294967296 ≤ Q2 ∨ ¬ Q2 * y0 ≤ 4294967296 * R2 + v := .inl (by omega)
            have hpos := (d2.next (S2.out.dig) hor).1
            obtain ⟨T2, eT2n⟩ : ∃ T : Nat, T = Q2 - 1 := ⟨_, rfl⟩
            have eT2 : (Q2 : Int) - 1 = (T2 : Int) := by omega
            obtain ⟨R2', eR2n⟩ : ∃ T : Nat, T = R2 + y1 := ⟨_, rfl⟩
            have eR2 : (R2 : Int) + (y1 : Int) = (R2' : Int) := by omega
            by_cases hr2 : R2' < 4294967296
            · have tr2 : decide ((4294967296 : Int) ≤ (R2' : Int)) = false := decide_eq_false (by omega)
              have hgo := d2.go (S2.out.dig) hor (by rw [← eR2n]; exact hr2)
              rw [← eT2n, ← eR2n] at hgo
              have HGO := Lib.hid hgo
              clear hgo d2 hor eT2n eR2n
              go_wp2_with fail
              first
                | exact ⟨⟨T2, R2', rfl, rfl, HGO.out⟩, by simp [intOf]; omega⟩
                | (go_roundw
                   case rel => exact ⟨T2, R2', rfl, rfl, HGO.out⟩
                   case measure => simp [intOf]; omega)
                | fail
            · have tr2 : decide ((4294967296 : Int) ≤ (R2' : Int)) = true := decide_eq_true (by omega)
              have hT2 := d2.stop (S2.out.dig) hor (by rw [← eR2n]; exact hr2)
              rw [← eT2n] at hT2
              clear d2 hor eT2n eR2n
              obtain ⟨hl2, R3, e1, e2, e3⟩ := last_of G.out S2.out hT2
              rw [← HQQ.out] at e2
              rw [← HRR.out] at e3
              have hl1 := S2.out.hT
              clear hT2
              go_wp2_with fail
              go_ret2
              exact ⟨rfl, Below.refl _ _⟩
end Go.Proofs.YtmbcejldifobnaaDoor.Sp
