import Derived.Test.YtmmgbofhbnflkaaIQ6
namespace Go.Proofs.Ytmmgbofhbnflkaa
open Go.RowKit

/-! Rows of fractions that grow. -/
def FV.cells (x : FV) : List Value := [.bool x.s, .slice x.A x.n x.c, .slice x.B x.m x.d]
def flatQ (l : List FV) : List Value := l.flatMap FV.cells
theorem flatQ_snoc (l : List FV) (x : FV) : flatQ (l ++ [x]) = flatQ l ++ FV.cells x := by simp [flatQ]
theorem flatQ_len (l : List FV) : (flatQ l).length = l.length * 3 := by
  induction l with
  | nil => rfl
  | cons x r ih => show (FV.cells x ++ flatQ r).length = _; rw [List.length_append, ih]; simp [FV.cells]; omega
theorem flatQ_at : ∀ (l : List FV) (k : Nat) (x : FV), l[k]? = some x → (flatQ l)[k * 3]? = some (.bool x.s) ∧ (flatQ l)[k * 3 + 1]? = some (.slice x.A x.n x.c) ∧ (flatQ l)[k * 3 + 2]? = some (.slice x.B x.m x.d)
  | [], k, x, h => by simp at h
  | y :: r, 0, x, h => by
    simp at h; subst h
    exact ⟨rfl, rfl, rfl⟩
  | y :: r, k + 1, x, h => by
    have ih := flatQ_at r k x (by simpa using h)
    have e : ∀ j, (flatQ (y :: r))[3 + j]? = (flatQ r)[j]? := fun j => by
      show (FV.cells y ++ flatQ r)[3 + j]? = _
      rw [List.getElem?_append_right (by simp [FV.cells])]
      simp [FV.cells]
    rw [show (k + 1) * 3 = 3 + k * 3 by omega, show 3 + k * 3 + 1 = 3 + (k * 3 + 1) by omega, show 3 + k * 3 + 2 = 3 + (k * 3 + 2) by omega, e, e, e]
    exact ih
/-- Block g is not one of fractions. -/
def NotQ (w : World) (g : Nat) : Prop := ∃ cur t fr, w.heap[g]? = some (.cells cur t fr) ∧ t ≠ 61
theorem own_type {w : World} {base n : Nat} {v : Value} {xs : List Value} (h : w.ownsRow base 61 3 v n xs) {g : Nat} (hg : v.ownBlock = some g) : ∃ cur fr, w.heap[g]? = some (.cells cur 61 fr) := by
  rcases h.2 with ⟨rfl, _⟩ | ⟨g', cap, cur, rfl, _, hgg, _⟩
  · simp [Value.ownBlock] at hg
  · simp [Value.ownBlock] at hg
    subst hg
    exact ⟨_, _, hgg⟩
theorem grown_notQ {w w' : World} {base n : Nat} {v : Value} {xs : List Value} (h : w.ownsRow base 61 3 v n xs) (hg : w.grownBy w' v.ownBlock) {k : Nat} (hk : NotQ w k) : w'.heap[k]? = w.heap[k]? := by
  obtain ⟨cur, t, fr, e, ht⟩ := hk
  refine hg.block k (Array.getElem?_eq_some_iff.1 e).1 (fun he => ?_)
  obtain ⟨c2, f2, e2⟩ := own_type h he.symm
  rw [e] at e2
  injection e2 with e2
  injection e2 with _ h2 _
  exact ht h2
theorem Num.grown {w w' : World} {base n N : Nat} {v u : Value} {xs : List Value} (hu : Num w w.heap.size u N) (h : w.ownsRow base 61 3 v n xs) (hg : w.grownBy w' v.ownBlock) : Num w' w'.heap.size u N :=
  Lim.more (Lim.kept hu fun g _ ⟨cur, fr, e⟩ => grown_notQ h hg ⟨cur, _, fr, e, by decide⟩) hg.size
theorem FQ.grown {w w' : World} {base n L : Nat} {s : Bool} {u1 u2 v : Value} {N : Int} {D : Nat} {xs : List Value} (hu : FQ w L s u1 u2 N D) (h : w.ownsRow base 61 3 v n xs) (hg : w.grownBy w' v.ownBlock) : FQ w' L s u1 u2 N D :=
  ⟨hu.sg, hu.num.grown h hg, hu.den.grown h hg, hu.ne, hu.co, hu.ln, hu.ld⟩
theorem rbelow_grownQ {w w1 w3 : World} {v : Value} {n : Nat} {xs : List Value} (hb : Below w.heap.size w w1) (ho : w1.ownsRow w.heap.size 61 3 v n xs) (hg : w1.grownBy w3 v.ownBlock) : Below w.heap.size w w3 :=
  hb.grown hg hb.size fun k hk => (ho.lt k hk).1
theorem Try.infoQ : (Try.prog.info? 61).map (fun i => (i.zero, i.size, i.bytes)) = some (some (.agg #[.bool false, .slice none 0 0, .slice none 0 0]), 3, 56) := by kernel_rfl
theorem news_Q (w : World) (x : FV) : ∀ j u, (FV.cells x)[j]? = some u → (w.alloc (.cells #[.bool x.s, .slice x.A x.n x.c, .slice x.B x.m x.d] 61)).cell? ((⟨w.heap.size, 0, none⟩ : Addr).add j) = some u := by
  intro j u hu
  rw [add_eq, Go.Joins.cell_of_block (World.alloc_heap_new w _) j]
  simpa [FV.cells] using hu
theorem one_Q (x : FV) : ∀ u ∈ FV.cells x, u.oneCell' = true := by
  intro u hu
  simp [FV.cells] at hu
  rcases hu with rfl | rfl | rfl <;> rfl
theorem append_quo {ops : Array Oper} {rest : List Oper} {o : Oper} {a : Act} {Q : Exit → Act → World → Prop} {wr : World} {base n : Nat} (hgd : o.guard = none) (s x : Operand)
    (ho : o.op = .call { callee := .builtin .append, args := #[s, x], argTypes := #[67, 67] }) {v : Value} {xs : List FV} {z : FV} (hs : a.eval s = v) (hx : a.eval x = .slice (some ⟨wr.heap.size, 0, none⟩) 1 1)
    (hown : wr.ownsRow base 61 3 v n (flatQ xs)) (hbase : base ≤ wr.heap.size) (hn : n ≤ 1000)
    (h : ∀ v' w', w'.ownsRow base 61 3 v' (n + 1) (flatQ (xs ++ [z])) → (wr.alloc (.cells #[.bool z.s, .slice z.A z.n z.c, .slice z.B z.m z.d] 61)).grownBy w' v.ownBlock → wpList Try.prog ops Q rest (a.put o.dst v') w') :
    wpList Try.prog ops Q (o :: rest) a (wr.alloc (.cells #[.bool z.s, .slice z.A z.n z.c, .slice z.B z.m z.d] 61)) := by
  obtain ⟨i0, hi0, hz0, hz1, hz2⟩ := info_parts Try.infoQ
  refine wpList_append_own _ hgd s x 67 ho base 61 i0 _ 3 56 Try.underlying67 hi0 hz0 hz1 hz2 rfl (by decide) v n (flatQ xs) hs (hown.alloc _) ⟨wr.heap.size, 0, none⟩ 1 1 (FV.cells z) hx rfl (news_Q wr z) (one_Q z) (by unfold maxLen; omega) (by omega) (by rw [World.size_alloc]; omega) ?_
  intro v' w' h2 h3 _
  exact h v' w' (by rw [flatQ_snoc]; exact h2) h3
end Go.Proofs.Ytmmgbofhbnflkaa
namespace Go.Proofs.Ytmmgbofhbnflkaa
open Go.RowKit

/-! The reference's corners. -/
def cnum (which : Nat) (p q : Int) : Int := match which with
  | 0 => p + q
  | 1 => p - q
  | 2 => p * q
  | _ => if q < 0 then -p else p
def cden (which : Nat) (q : Int) : Nat := if which = 3 then q.natAbs else 1
def Crel (which : Nat) (p q N : Int) (D : Nat) : Prop := N * (cden which q : Int) = cnum which p q * (D : Int)
theorem FRes.imp {w : World} {L L' : Nat} {P P' : Int → Nat → Prop} (hl : L ≤ L') (hp : ∀ N D, P N D → P' N D) {e : Ending} {w' : World} (h : FRes w L P e w') : FRes w L' P' e w' := by
  obtain ⟨s, A, n, c, B, m, d, N, D, he, hf, h1, hb⟩ := h
  exact ⟨s, A, n, c, B, m, d, N, D, he, hf.more hl, hp _ _ h1, hb⟩
section
variable {W : World} {s1 s2 : Bool} {u1 v1 u2 v2 : Value} {p q : Int}
theorem opc0 (h1 : FQ W 2 s1 u1 v1 p 1) (h2 : FQ W 2 s2 u2 v2 q 1) : Calls Try.prog 87 #[.agg #[.bool s1, u1, v1], .agg #[.bool s2, u2, v2]] W (FRes W 9 (Crel 0 p q)) :=
  (fadd h1 h2 (by omega)).mono fun e w' h => h.imp (by omega) fun N D hp => by
    simp only [Crel, cnum, cden]
    simpa using hp
theorem opc1 (h1 : FQ W 2 s1 u1 v1 p 1) (h2 : FQ W 2 s2 u2 v2 q 1) : Calls Try.prog 88 #[.agg #[.bool s1, u1, v1], .agg #[.bool s2, u2, v2]] W (FRes W 9 (Crel 1 p q)) :=
  (fsub h1 h2 (by omega)).mono fun e w' h => h.imp (by omega) fun N D hp => by
    simp only [Crel, cnum, cden]
    simpa using hp
theorem opc2 (h1 : FQ W 2 s1 u1 v1 p 1) (h2 : FQ W 2 s2 u2 v2 q 1) : Calls Try.prog 52 #[.agg #[.bool s1, u1, v1], .agg #[.bool s2, u2, v2]] W (FRes W 9 (Crel 2 p q)) :=
  (fmul h1 h2 (by omega)).mono fun e w' h => h.imp (by omega) fun N D hp => by
    simp only [Crel, cnum, cden]
    simpa using hp
theorem opc3 (h1 : FQ W 2 s1 u1 v1 p 1) (h2 : FQ W 2 s2 u2 v2 q 1) (h0 : q ≠ 0) : Calls Try.prog 73 #[.agg #[.bool s1, u1, v1], .agg #[.bool s2, u2, v2]] W (FRes W 9 (Crel 3 p q)) :=
  (fdiv h1 h2 (by omega) h0).mono fun e w' h => h.imp (by omega) fun N D hp => by
    simp only [Crel, cnum, cden]
    rw [Nat.one_mul] at hp
    have e : p * sgI (decide (q < 0)) 1 = if q < 0 then -p else p := by
      unfold sgI
      by_cases h : q < 0 <;> simp [h]
    rw [e] at hp
    exact hp
end
def pick (a : Int × Int) (i : Nat) : Int := if i = 0 then a.1 else a.2
theorem pick_bd {a : Int × Int} (h : okB a.1 = true ∧ okB a.2 = true) (i : Nat) : -4611686018427387904 ≤ pick a i ∧ pick a i ≤ 4611686018427387904 := by
  unfold pick
  split
  · exact okB_iff.1 h.1
  · exact okB_iff.1 h.2
/-- A block of two numbers. -/
def XB (W : World) (g : Nat) (a : Int × Int) : Prop := W.heap[g]? = some (.cells #[.int .i64 a.1, .int .i64 a.2] 2 (0, 0))
theorem XB.cell {W : World} {g : Nat} {a : Int × Int} (h : XB W g a) {i : Nat} (hi : i < 2) : W.cell? ⟨g, i, none⟩ = some (.int .i64 (pick a i)) := by
  rw [Go.Joins.cell_of_block h i]
  match i, hi with
  | 0, _ => rfl
  | 1, _ => rfl
theorem XB.lt {W : World} {g : Nat} {a : Int × Int} (h : XB W g a) : g < W.heap.size := (Array.getElem?_eq_some_iff.1 (show W.heap[g]? = some _ from h)).1
theorem XB.below {W W' : World} {B g : Nat} {a : Int × Int} (h : XB W g a) (hb : Below B W W') (hg : g < B) : XB W' g a := (hb.block g hg).trans h
theorem XB.notQ {W : World} {g : Nat} {a : Int × Int} (h : XB W g a) : NotQ W g := ⟨_, _, _, h, by decide⟩
structure CoM (w : World) (a b : Int × Int) (which n : Nat) (out : Value) (xs : List FV) (wr : World) : Prop where
  len : xs.length = n
  own : wr.ownsRow w.heap.size 61 3 out n (flatQ xs)
  ok : ∀ (j : Nat) (x : FV), xs[j]? = some x → x.ok wr 9 ∧ Crel which (pick a (j / 2)) (pick b (j % 2)) x.N x.D
  x : XB wr (w.heap.size + 1 + 1) a
  y : XB wr (w.heap.size + 1 + 1 + 1) b
  bl : Below w.heap.size w wr
theorem CoM.below {w wr w' : World} {a b : Int × Int} {which n : Nat} {out : Value} {xs : List FV} (h : CoM w a b which n out xs wr) (hb : Below wr.heap.size wr w') : CoM w a b which n out xs w' :=
  ⟨h.len, h.own.kept (grownBy_of_below hb) (by cases out.ownBlock <;> simp), fun j x hx => ⟨FQ.up (h.ok j x hx).1 hb, (h.ok j x hx).2⟩, h.x.below hb h.x.lt, h.y.below hb h.y.lt, h.bl.trans (hb.mono h.bl.size)⟩
theorem CoM.wrote {w wr : World} {a b : Int × Int} {which n g : Nat} {out : Value} {xs : List FV} (h : CoM w a b which n out xs wr) (hq : QB wr g false (.slice none 0 0) (.slice none 0 0)) (hw : w.heap.size ≤ g) (hne : out.ownBlock ≠ some g) (s : Bool) (u v : Value) : CoM w a b which n out xs (wroteQ wr g s u v) := by
  have hx : w.heap.size + 1 + 1 ≠ g := by
    rintro rfl
    have e : wr.heap[w.heap.size + 1 + 1]? = some (.cells #[.bool false, .slice none 0 0, .slice none 0 0] 61 (0, 0)) := hq
    have e2 := h.x
    unfold XB at e2
    rw [e] at e2
    injection e2 with e2
    injection e2 with _ h2 _
    exact absurd h2 (by decide)
  have hy : w.heap.size + 1 + 1 + 1 ≠ g := by
    rintro rfl
    have e : wr.heap[w.heap.size + 1 + 1 + 1]? = some (.cells #[.bool false, .slice none 0 0, .slice none 0 0] 61 (0, 0)) := hq
    have e2 := h.y
    unfold XB at e2
    rw [e] at e2
    injection e2 with e2
    injection e2 with _ h2 _
    exact absurd h2 (by decide)
  refine ⟨h.len, ?_, fun j x hx => ⟨FQ.wrote (h.ok j x hx).1 hq s u v, (h.ok j x hx).2⟩, (heap_wroteQ _ _ _ hx).trans h.x, (heap_wroteQ _ _ _ hy).trans h.y, wroteQ_below h.bl hw s u v⟩
  refine ⟨h.own.1, ?_⟩
  rcases h.own.2 with hn | ⟨g', cap, cur, rfl, hb, hgg, rest⟩
  · exact .inl hn
  · refine .inr ⟨g', cap, cur, rfl, hb, ?_, rest⟩
    rw [heap_wroteQ _ _ _ (fun e => hne (by rw [← e]; rfl))]
    exact hgg
theorem CoM.snoc {w wr w' : World} {a b : Int × Int} {which n : Nat} {out v' : Value} {xs : List FV} {z : FV} (h : CoM w a b which n out xs wr) (hz : z.ok wr 9) (hp : Crel which (pick a (n / 2)) (pick b (n % 2)) z.N z.D)
    (hown : w'.ownsRow w.heap.size 61 3 v' (n + 1) (flatQ (xs ++ [z]))) (hg : (wr.alloc (.cells #[.bool z.s, .slice z.A z.n z.c, .slice z.B z.m z.d] 61)).grownBy w' out.ownBlock) : CoM w a b which (n + 1) v' (xs ++ [z]) w' := by
  have hb : Below wr.heap.size wr (wr.alloc (.cells #[.bool z.s, .slice z.A z.n z.c, .slice z.B z.m z.d] 61)) := (Below.refl _ _).alloc (Nat.le_refl _) _
  have h1 := h.below hb
  have hz1 := FQ.up hz hb
  generalize wr.alloc (.cells #[.bool z.s, .slice z.A z.n z.c, .slice z.B z.m z.d] 61) = W at *
  refine ⟨by rw [List.length_append, h.len]; rfl, hown, fun j x hx => ?_, (grown_notQ h1.own hg h1.x.notQ).trans h1.x, (grown_notQ h1.own hg h1.y.notQ).trans h1.y, rbelow_grownQ h1.bl h1.own hg⟩
  by_cases hj : j < xs.length
  · rw [List.getElem?_append_left hj] at hx
    exact ⟨FQ.grown (h1.ok j x hx).1 h1.own hg, (h1.ok j x hx).2⟩
  · have hj' : j = n := by
      have := (List.getElem?_eq_some_iff.1 hx).1
      rw [List.length_append] at this
      have := h.len
      simp at *
      omega
    subst hj'
    rw [List.getElem?_append_right (by rw [h.len]; omega), h.len, Nat.sub_self] at hx
    simp at hx
    subst hx
    exact ⟨FQ.grown hz1 h1.own hg, hp⟩
def CoOut (w : World) (a b : Int × Int) (which : Nat) (ov iv : Value) (wr : World) : Prop := ∃ (i : Nat) (xs : List FV), i ≤ 2 ∧ iv = .int .i64 (i : Int) ∧ CoM w a b which (2 * i) ov xs wr
def CoIn (w : World) (a b : Int × Int) (which i : Nat) (ov kv : Value) (wr : World) : Prop := ∃ (k : Nat) (xs : List FV), k ≤ 2 ∧ kv = .int .i64 (k : Int) ∧ CoM w a b which (2 * i + k) ov xs wr
def CoPost (w : World) (a b : Int × Int) (which : Nat) (e : Ending) (w' : World) : Prop :=
  ∃ (g cap : Nat) (xs : List FV), e = .returned (.slice (some ⟨g, 0, none⟩) xs.length cap) ∧ xs.length = 4 ∧ g < w'.heap.size ∧ (∀ (k : Nat) (x : FV), xs[k]? = some x → FvAt w' g k x ∧ x.ok w' 9 ∧ Crel which (pick a (k / 2)) (pick b (k % 2)) x.N x.D) ∧ Below w.heap.size w w'
theorem CoM.post {w wr : World} {a b : Int × Int} {which : Nat} {out : Value} {xs : List FV} (h : CoM w a b which 4 out xs wr) : CoPost w a b which (.returned out) wr := by
  obtain ⟨g, cap, rfl, -, hlt⟩ := h.own.form (by omega)
  refine ⟨g, cap, xs, by rw [h.len], h.len, hlt, fun k x hx => ?_, h.bl⟩
  obtain ⟨f0, f1, f2⟩ := flatQ_at xs k x hx
  have hc := h.own.cells (g := g) rfl
  refine ⟨⟨?_, ?_, ?_⟩, h.ok k x hx⟩
  · have := hc _ _ f0; rw [add_eq] at this; exact this
  · have := hc _ _ f1; rw [add_eq] at this; exact this
  · have := hc _ _ f2; rw [add_eq] at this; exact this
theorem own_ne {w wr : World} {a b : Int × Int} {which n : Nat} {out : Value} {xs : List FV} (h : CoM w a b which n out xs wr) : out.ownBlock ≠ some wr.heap.size := fun e => by
  have := (h.own.lt _ e).2
  omega

set_option maxRecDepth 100000 in
set_option maxHeartbeats 4000000 in
theorem corners0_any (a b : Int × Int) (w : World) (ha : okB a.1 = true ∧ okB a.2 = true) (hb : okB b.1 = true ∧ okB b.2 = true) :
    Calls Try.prog 67 #[ivV a, ivV b, .int .i64 0] w (CoPost w a b 0) := by
  have hbox : ∃ W4, W4 = (((w.alloc (.cells #[.int .i64 a.1, .int .i64 a.2] 23)).alloc (.cells #[.int .i64 b.1, .int .i64 b.2] 23)).alloc (.cells #[.int .i64 a.1, .int .i64 a.2] 2)).alloc (.cells #[.int .i64 b.1, .int .i64 b.2] 2) := ⟨_, rfl⟩
  obtain ⟨W4, hW4⟩ := hbox
  have hM0 : CoM w a b 0 (2 * 0) (.slice none 0 0) [] W4 := by
    have b1 : Below w.heap.size w (w.alloc (.cells #[.int .i64 a.1, .int .i64 a.2] 23)) := (Below.refl _ w).alloc (Nat.le_refl _) _
    have b2 := b1.alloc (by simp) (.cells #[.int .i64 b.1, .int .i64 b.2] 23)
    have b3 := b2.alloc (by simp; omega) (.cells #[.int .i64 a.1, .int .i64 a.2] 2)
    have b4 := b3.alloc (by simp; omega) (.cells #[.int .i64 b.1, .int .i64 b.2] 2)
    have x3 : XB (((w.alloc (.cells #[.int .i64 a.1, .int .i64 a.2] 23)).alloc (.cells #[.int .i64 b.1, .int .i64 b.2] 23)).alloc (.cells #[.int .i64 a.1, .int .i64 a.2] 2)) (w.heap.size + 1 + 1) a := by
      have := World.alloc_heap_new ((w.alloc (.cells #[.int .i64 a.1, .int .i64 a.2] 23)).alloc (.cells #[.int .i64 b.1, .int .i64 b.2] 23)) (.cells #[.int .i64 a.1, .int .i64 a.2] 2)
      rw [World.size_alloc, World.size_alloc] at this
      exact this
    have y4 : XB W4 (w.heap.size + 1 + 1 + 1) b := by
      rw [hW4]
      have := World.alloc_heap_new (((w.alloc (.cells #[.int .i64 a.1, .int .i64 a.2] 23)).alloc (.cells #[.int .i64 b.1, .int .i64 b.2] 23)).alloc (.cells #[.int .i64 a.1, .int .i64 a.2] 2)) (.cells #[.int .i64 b.1, .int .i64 b.2] 2)
      rw [World.size_alloc, World.size_alloc, World.size_alloc] at this
      exact this
    refine ⟨rfl, World.ownsRow_nil _ _ _ _, fun j x hx => by simp at hx, ?_, y4, by rw [hW4]; exact b4⟩
    rw [hW4]
    exact x3.below ((Below.refl _ _).alloc (Nat.le_refl _) _) x3.lt
  have hqp := fun i W => Quo03_any (pick a i) (pick_bd ha i) W
  have hqq := fun i W => Quo03_any (pick b i) (pick_bd hb i) W
  have hop := fun (i k : Nat) (W : World) (s1 : Bool) (u1 v1 : Value) (s2 : Bool) (u2 v2 : Value) (h1 : FQ W 2 s1 u1 v1 (pick a i) 1) (h2 : FQ W 2 s2 u2 v2 (pick b k) 1) => opc0 (W := W) (q := pick b k) h1 h2
  have HQPA := Lib.hid hqp
  have HQQA := Lib.hid hqq
  have HOPA := Lib.hid hop
  have HM0 := Lib.hid hM0
  have HW4 := Lib.hid hW4
  clear hqp hqq hop hM0 ha hb
  unfold ivV
  go_enter Try.func67, Try.ntmps67
  go_wp2_with fail
  simp only [← HW4.out]
  go_loopw [7, 10] (fun ov iv wr => CoOut w a b 0 ov iv wr) (fun _ i _ => 2 - (intOf i).toNat)
  case atStart => exact ⟨0, [], by omega, rfl, HM0.out⟩
  case round =>
    obtain ⟨i, xs, hi, rfl, hM⟩ := hrel
    by_cases hi2 : i < 2
    · have hi0 : (0 : Int) ≤ (i : Int) := Int.natCast_nonneg _
      have hi2i : (i : Int) < 2 := by omega
      have HMI := Lib.hid hM
      clear hM
      go_wp2_with fail
      go_loopw [7, 11] (fun ov kv wr' => CoIn w a b 0 i ov kv wr') (fun _ k _ => 2 - (intOf k).toNat)
      case atStart => exact ⟨0, xs, by omega, rfl, HMI.out⟩
      case round =>
        clear HMI
        obtain ⟨k, xs, hk, rfl, hM⟩ := hrel
        by_cases hk2 : k < 2
        · have hk0 : (0 : Int) ≤ (k : Int) := Int.natCast_nonneg _
          have hk2i : (k : Int) < 2 := by omega
          have hcx := hM.x.cell hi2
          have hcy := hM.y.cell hk2
          have hOPC := HOPA.out i k
          have hQP := HQPA.out i
          have hQQ := HQQA.out k
          obtain ⟨p, hp⟩ : ∃ p, p = pick a i := ⟨_, rfl⟩
          obtain ⟨q, hq⟩ : ∃ q, q = pick b k := ⟨_, rfl⟩
          rw [← hp] at hcx hOPC hQP
          rw [← hq] at hcy hOPC hQQ
          have HOP := Lib.hid hOPC
          have HQP := Lib.hid hQP
          have HQQ := Lib.hid hQQ
          have HP := Lib.hid hp.symm
          have HQ := Lib.hid hq.symm
          have hbd : Below wr.heap.size wr (wr.alloc (.cells #[.bool false, .slice none 0 0, .slice none 0 0] 61)) := (Below.refl _ _).alloc (Nat.le_refl _) _
          have hqd := QB.new wr false (.slice none 0 0) (.slice none 0 0)
          have hnx : w.heap.size + 1 + 1 ≠ wr.heap.size := by have := hM.x.lt; omega
          have hny : w.heap.size + 1 + 1 + 1 ≠ wr.heap.size := by have := hM.y.lt; omega
          have hne := own_ne hM
          have hws := hM.bl.size
          have HNX := Lib.hid hnx
          have HNY := Lib.hid hny
          have HNE := Lib.hid hne
          have HWS := Lib.hid hws
          have HM := Lib.hid hM
          have hxd := (hM.below hbd).x.cell hi2
          have hyd := (hM.below hbd).y.cell hk2
          rw [← hp] at hxd
          rw [← hq] at hyd
          have HBD := Lib.hid hbd.drew
          have HQD := Lib.hid (show QB (wr.alloc (.cells #[.bool false, .slice none 0 0, .slice none 0 0] 61)).drew wr.heap.size false (.slice none 0 0) (.slice none 0 0) from hqd)
          clear hp hq hOPC hQP hQQ hbd hqd hnx hny hne hws hM hcx hcy
          go_wp2_with fail
          go_region_held3 (fun w' => w'.cell? ⟨w.heap.size + 1 + 1, i, none⟩ = some (.int .i64 p) ∧ w'.cell? ⟨w.heap.size + 1 + 1 + 1, k, none⟩ = some (.int .i64 q))
            (refine ⟨?_, ?_⟩ <;> first | with_reducible assumption | with_reducible exact kpx _ _ _ | with_reducible exact kpy _ _ _ | go_keep)
            (first
              | (go_at_call 53; refine Calls.mono (HQP.out _) ?_; clear HQP; rintro e w3 ⟨s1, A1, l1, c1, B1, m1, d1, N1, D1, he, hf1, ⟨hN1, hD1⟩, hb3⟩; subst he; rw [hN1, hD1] at hf1; clear hN1 hD1; have hM3 := CoM.below (CoM.below HM.out HBD.out) hb3; have xxa := XB.cell (CoM.x hM3) hi2; have yya := XB.cell (CoM.y hM3) hk2; rw [HP.out] at xxa; rw [HQ.out] at yya; have hq3 := QB.below HQD.out hb3 (QB.lt HQD.out))
              | (go_at_call 53; refine Calls.mono (HQQ.out _) ?_; clear HQQ; rintro e w4 ⟨s2, A2, l2, c2, B2, m2, d2, N2, D2, he, hf2, ⟨hN2, hD2⟩, hb4⟩; subst he; rw [hN2, hD2] at hf2; clear hN2 hD2; have hM4 := CoM.below hM3 hb4; have xxb := XB.cell (CoM.x hM4) hi2; have yyb := XB.cell (CoM.y hM4) hk2; rw [HP.out] at xxb; rw [HQ.out] at yyb; have hq4 := QB.below hq3 hb4 (QB.lt hq3); have hf14 := FQ.up hf1 hb4)
              | (go_at_call 87; refine Calls.mono (HOP.out _ _ _ _ _ _ _ hf14 hf2) ?_; clear HOP; rintro e w5 ⟨s3, A3, l3, c3, B3, m3, d3, N3, D3, he, hf3, hP3, hb5⟩; subst he; have hM5 := CoM.below hM4 hb5; have xxc := XB.cell (CoM.x hM5) hi2; have yyc := XB.cell (CoM.y hM5) hk2; rw [HP.out] at xxc; rw [HQ.out] at yyc; have hq5 := QB.below hq4 hb5 (QB.lt hq4); have r0 := hq5.c0; have r1 := hq5.c1; have r2 := hq5.c2; have r3 := hq5.fr 0; have r4 := hq5.fr 1; have r5 := hq5.fr 2; have kpx := cell_other3 (k := wr.heap.size) xxc HNX.out; have kpy := cell_other3 (k := wr.heap.size) yyc HNY.out))
          have hMW := CoM.wrote hM5 hq5 HWS.out HNE.out s3 (.slice A3 l3 c3) (.slice B3 m3 d3)
          have hqW := hq5.write s3 (.slice A3 l3 c3) (.slice B3 m3 d3)
          have hfW := FQ.wrote hf3 hq5 s3 (.slice A3 l3 c3) (.slice B3 m3 d3)
          have HMW := Lib.hid hMW
          have HFW := Lib.hid (show FV.ok ⟨s3, A3, l3, c3, B3, m3, d3, N3, D3⟩ (wroteQ w5 wr.heap.size s3 (.slice A3 l3 c3) (.slice B3 m3 d3)) 9 from hfW)
          have HP3 := Lib.hid hP3
          have z0 := hqW.c0
          have z1 := hqW.c1
          have z2 := hqW.c2
          clear hMW hqW hfW hP3 hM5 hM4 hM3 hq5 hq4 hq3 hf1 hf2 hf3 hf14 hb3 hb4 hb5 r0 r1 r2 r3 r4 r5 kpx kpy xxa yya xxb yyb xxc yyc
          simp only [wroteQ] at HMW HFW z0 z1 z2
          generalize ((w5.setCell _ _).setCell _ _).setCell _ _ = W9 at *
          have hown := HMW.out.own
          have HSZ := Lib.hid HMW.out.bl.size
          go_wp2_with (at_builtin; refine append_quo rfl (.tmp 95) (.tmp 97) rfl (xs := xs) (z := ⟨s3, A3, l3, c3, B3, m3, d3, N3, D3⟩) rfl rfl hown HSZ.out (by omega) ?_; intro v' w10 hown10 hgr10)
          have hfin := CoM.snoc HMW.out HFW.out (by
            have e1 : (2 * i + k) / 2 = i := by omega
            have e2 : (2 * i + k) % 2 = k := by omega
            rw [e1, e2, HP.out, HQ.out]
            exact HP3.out) hown10 hgr10
          go_roundw
          case rel => exact ⟨k + 1, _, by omega, by go_num, hfin⟩
          case measure => simp [intOf]; omega
        · obtain rfl : k = 2 := by omega
          have HM := Lib.hid hM
          clear hM
          go_wp2_with fail
          go_roundw
          case rel => exact ⟨i + 1, xs, by omega, by go_num, by have h := HM.out; rw [show 2 * (i + 1) = 2 * i + 2 by omega]; exact h⟩
          case measure => simp [intOf]; omega
    · obtain rfl : i = 2 := by omega
      have HM := Lib.hid hM.post
      clear hM
      go_wp2_with fail
      go_ret
      exact HM.out
end Go.Proofs.Ytmmgbofhbnflkaa
namespace Go.Proofs.Ytmmgbofhbnflkaa
open Go.RowKit

set_option maxRecDepth 100000 in
set_option maxHeartbeats 4000000 in
theorem corners1_any (a b : Int × Int) (w : World) (ha : okB a.1 = true ∧ okB a.2 = true) (hb : okB b.1 = true ∧ okB b.2 = true) :
    Calls Try.prog 67 #[ivV a, ivV b, .int .i64 1] w (CoPost w a b 1) := by
  have hbox : ∃ W4, W4 = (((w.alloc (.cells #[.int .i64 a.1, .int .i64 a.2] 23)).alloc (.cells #[.int .i64 b.1, .int .i64 b.2] 23)).alloc (.cells #[.int .i64 a.1, .int .i64 a.2] 2)).alloc (.cells #[.int .i64 b.1, .int .i64 b.2] 2) := ⟨_, rfl⟩
  obtain ⟨W4, hW4⟩ := hbox
  have hM0 : CoM w a b 1 (2 * 0) (.slice none 0 0) [] W4 := by
    have b1 : Below w.heap.size w (w.alloc (.cells #[.int .i64 a.1, .int .i64 a.2] 23)) := (Below.refl _ w).alloc (Nat.le_refl _) _
    have b2 := b1.alloc (by simp) (.cells #[.int .i64 b.1, .int .i64 b.2] 23)
    have b3 := b2.alloc (by simp; omega) (.cells #[.int .i64 a.1, .int .i64 a.2] 2)
    have b4 := b3.alloc (by simp; omega) (.cells #[.int .i64 b.1, .int .i64 b.2] 2)
    have x3 : XB (((w.alloc (.cells #[.int .i64 a.1, .int .i64 a.2] 23)).alloc (.cells #[.int .i64 b.1, .int .i64 b.2] 23)).alloc (.cells #[.int .i64 a.1, .int .i64 a.2] 2)) (w.heap.size + 1 + 1) a := by
      have := World.alloc_heap_new ((w.alloc (.cells #[.int .i64 a.1, .int .i64 a.2] 23)).alloc (.cells #[.int .i64 b.1, .int .i64 b.2] 23)) (.cells #[.int .i64 a.1, .int .i64 a.2] 2)
      rw [World.size_alloc, World.size_alloc] at this
      exact this
    have y4 : XB W4 (w.heap.size + 1 + 1 + 1) b := by
      rw [hW4]
      have := World.alloc_heap_new (((w.alloc (.cells #[.int .i64 a.1, .int .i64 a.2] 23)).alloc (.cells #[.int .i64 b.1, .int .i64 b.2] 23)).alloc (.cells #[.int .i64 a.1, .int .i64 a.2] 2)) (.cells #[.int .i64 b.1, .int .i64 b.2] 2)
      rw [World.size_alloc, World.size_alloc, World.size_alloc] at this
      exact this
    refine ⟨rfl, World.ownsRow_nil _ _ _ _, fun j x hx => by simp at hx, ?_, y4, by rw [hW4]; exact b4⟩
    rw [hW4]
    exact x3.below ((Below.refl _ _).alloc (Nat.le_refl _) _) x3.lt
  have hqp := fun i W => Quo03_any (pick a i) (pick_bd ha i) W
  have hqq := fun i W => Quo03_any (pick b i) (pick_bd hb i) W
  have hop := fun (i k : Nat) (W : World) (s1 : Bool) (u1 v1 : Value) (s2 : Bool) (u2 v2 : Value) (h1 : FQ W 2 s1 u1 v1 (pick a i) 1) (h2 : FQ W 2 s2 u2 v2 (pick b k) 1) => opc1 (W := W) (q := pick b k) h1 h2
  have HQPA := Lib.hid hqp
  have HQQA := Lib.hid hqq
  have HOPA := Lib.hid hop
  have HM0 := Lib.hid hM0
  have HW4 := Lib.hid hW4
  clear hqp hqq hop hM0 ha hb
  unfold ivV
  go_enter Try.func67, Try.ntmps67
  go_wp2_with fail
  simp only [← HW4.out]
  go_loopw [7, 10] (fun ov iv wr => CoOut w a b 1 ov iv wr) (fun _ i _ => 2 - (intOf i).toNat)
  case atStart => exact ⟨0, [], by omega, rfl, HM0.out⟩
  case round =>
    obtain ⟨i, xs, hi, rfl, hM⟩ := hrel
    by_cases hi2 : i < 2
    · have hi0 : (0 : Int) ≤ (i : Int) := Int.natCast_nonneg _
      have hi2i : (i : Int) < 2 := by omega
      have HMI := Lib.hid hM
      clear hM
      go_wp2_with fail
      go_loopw [7, 11] (fun ov kv wr' => CoIn w a b 1 i ov kv wr') (fun _ k _ => 2 - (intOf k).toNat)
      case atStart => exact ⟨0, xs, by omega, rfl, HMI.out⟩
      case round =>
        clear HMI
        obtain ⟨k, xs, hk, rfl, hM⟩ := hrel
        by_cases hk2 : k < 2
        · have hk0 : (0 : Int) ≤ (k : Int) := Int.natCast_nonneg _
          have hk2i : (k : Int) < 2 := by omega
          have hcx := hM.x.cell hi2
          have hcy := hM.y.cell hk2
          have hOPC := HOPA.out i k
          have hQP := HQPA.out i
          have hQQ := HQQA.out k
          obtain ⟨p, hp⟩ : ∃ p, p = pick a i := ⟨_, rfl⟩
          obtain ⟨q, hq⟩ : ∃ q, q = pick b k := ⟨_, rfl⟩
          rw [← hp] at hcx hOPC hQP
          rw [← hq] at hcy hOPC hQQ
          have HOP := Lib.hid hOPC
          have HQP := Lib.hid hQP
          have HQQ := Lib.hid hQQ
          have HP := Lib.hid hp.symm
          have HQ := Lib.hid hq.symm
          have hbd : Below wr.heap.size wr (wr.alloc (.cells #[.bool false, .slice none 0 0, .slice none 0 0] 61)) := (Below.refl _ _).alloc (Nat.le_refl _) _
          have hqd := QB.new wr false (.slice none 0 0) (.slice none 0 0)
          have hnx : w.heap.size + 1 + 1 ≠ wr.heap.size := by have := hM.x.lt; omega
          have hny : w.heap.size + 1 + 1 + 1 ≠ wr.heap.size := by have := hM.y.lt; omega
          have hne := own_ne hM
          have hws := hM.bl.size
          have HNX := Lib.hid hnx
          have HNY := Lib.hid hny
          have HNE := Lib.hid hne
          have HWS := Lib.hid hws
          have HM := Lib.hid hM
          have hxd := (hM.below hbd).x.cell hi2
          have hyd := (hM.below hbd).y.cell hk2
          rw [← hp] at hxd
          rw [← hq] at hyd
          have HBD := Lib.hid hbd.drew
          have HQD := Lib.hid (show QB (wr.alloc (.cells #[.bool false, .slice none 0 0, .slice none 0 0] 61)).drew wr.heap.size false (.slice none 0 0) (.slice none 0 0) from hqd)
          clear hp hq hOPC hQP hQQ hbd hqd hnx hny hne hws hM hcx hcy
          go_wp2_with fail
          go_region_held3 (fun w' => w'.cell? ⟨w.heap.size + 1 + 1, i, none⟩ = some (.int .i64 p) ∧ w'.cell? ⟨w.heap.size + 1 + 1 + 1, k, none⟩ = some (.int .i64 q))
            (refine ⟨?_, ?_⟩ <;> first | with_reducible assumption | with_reducible exact kpx _ _ _ | with_reducible exact kpy _ _ _ | go_keep)
            (first
              | (go_at_call 53; refine Calls.mono (HQP.out _) ?_; clear HQP; rintro e w3 ⟨s1, A1, l1, c1, B1, m1, d1, N1, D1, he, hf1, ⟨hN1, hD1⟩, hb3⟩; subst he; rw [hN1, hD1] at hf1; clear hN1 hD1; have hM3 := CoM.below (CoM.below HM.out HBD.out) hb3; have xxa := XB.cell (CoM.x hM3) hi2; have yya := XB.cell (CoM.y hM3) hk2; rw [HP.out] at xxa; rw [HQ.out] at yya; have hq3 := QB.below HQD.out hb3 (QB.lt HQD.out))
              | (go_at_call 53; refine Calls.mono (HQQ.out _) ?_; clear HQQ; rintro e w4 ⟨s2, A2, l2, c2, B2, m2, d2, N2, D2, he, hf2, ⟨hN2, hD2⟩, hb4⟩; subst he; rw [hN2, hD2] at hf2; clear hN2 hD2; have hM4 := CoM.below hM3 hb4; have xxb := XB.cell (CoM.x hM4) hi2; have yyb := XB.cell (CoM.y hM4) hk2; rw [HP.out] at xxb; rw [HQ.out] at yyb; have hq4 := QB.below hq3 hb4 (QB.lt hq3); have hf14 := FQ.up hf1 hb4)
              | (go_at_call 88; refine Calls.mono (HOP.out _ _ _ _ _ _ _ hf14 hf2) ?_; clear HOP; rintro e w5 ⟨s3, A3, l3, c3, B3, m3, d3, N3, D3, he, hf3, hP3, hb5⟩; subst he; have hM5 := CoM.below hM4 hb5; have xxc := XB.cell (CoM.x hM5) hi2; have yyc := XB.cell (CoM.y hM5) hk2; rw [HP.out] at xxc; rw [HQ.out] at yyc; have hq5 := QB.below hq4 hb5 (QB.lt hq4); have r0 := hq5.c0; have r1 := hq5.c1; have r2 := hq5.c2; have r3 := hq5.fr 0; have r4 := hq5.fr 1; have r5 := hq5.fr 2; have kpx := cell_other3 (k := wr.heap.size) xxc HNX.out; have kpy := cell_other3 (k := wr.heap.size) yyc HNY.out))
          have hMW := CoM.wrote hM5 hq5 HWS.out HNE.out s3 (.slice A3 l3 c3) (.slice B3 m3 d3)
          have hqW := hq5.write s3 (.slice A3 l3 c3) (.slice B3 m3 d3)
          have hfW := FQ.wrote hf3 hq5 s3 (.slice A3 l3 c3) (.slice B3 m3 d3)
          have HMW := Lib.hid hMW
          have HFW := Lib.hid (show FV.ok ⟨s3, A3, l3, c3, B3, m3, d3, N3, D3⟩ (wroteQ w5 wr.heap.size s3 (.slice A3 l3 c3) (.slice B3 m3 d3)) 9 from hfW)
          have HP3 := Lib.hid hP3
          have z0 := hqW.c0
          have z1 := hqW.c1
          have z2 := hqW.c2
          clear hMW hqW hfW hP3 hM5 hM4 hM3 hq5 hq4 hq3 hf1 hf2 hf3 hf14 hb3 hb4 hb5 r0 r1 r2 r3 r4 r5 kpx kpy xxa yya xxb yyb xxc yyc
          simp only [wroteQ] at HMW HFW z0 z1 z2
          generalize ((w5.setCell _ _).setCell _ _).setCell _ _ = W9 at *
          have hown := HMW.out.own
          have HSZ := Lib.hid HMW.out.bl.size
          go_wp2_with (at_builtin; refine append_quo rfl (.tmp 95) (.tmp 97) rfl (xs := xs) (z := ⟨s3, A3, l3, c3, B3, m3, d3, N3, D3⟩) rfl rfl hown HSZ.out (by omega) ?_; intro v' w10 hown10 hgr10)
          have hfin := CoM.snoc HMW.out HFW.out (by
            have e1 : (2 * i + k) / 2 = i := by omega
            have e2 : (2 * i + k) % 2 = k := by omega
            rw [e1, e2, HP.out, HQ.out]
            exact HP3.out) hown10 hgr10
          go_roundw
          case rel => exact ⟨k + 1, _, by omega, by go_num, hfin⟩
          case measure => simp [intOf]; omega
        · obtain rfl : k = 2 := by omega
          have HM := Lib.hid hM
          clear hM
          go_wp2_with fail
          go_roundw
          case rel => exact ⟨i + 1, xs, by omega, by go_num, by have h := HM.out; rw [show 2 * (i + 1) = 2 * i + 2 by omega]; exact h⟩
          case measure => simp [intOf]; omega
    · obtain rfl : i = 2 := by omega
      have HM := Lib.hid hM.post
      clear hM
      go_wp2_with fail
      go_ret
      exact HM.out

set_option maxRecDepth 100000 in
set_option maxHeartbeats 4000000 in
theorem corners2_any (a b : Int × Int) (w : World) (ha : okB a.1 = true ∧ okB a.2 = true) (hb : okB b.1 = true ∧ okB b.2 = true) :
    Calls Try.prog 67 #[ivV a, ivV b, .int .i64 2] w (CoPost w a b 2) := by
  have hbox : ∃ W4, W4 = (((w.alloc (.cells #[.int .i64 a.1, .int .i64 a.2] 23)).alloc (.cells #[.int .i64 b.1, .int .i64 b.2] 23)).alloc (.cells #[.int .i64 a.1, .int .i64 a.2] 2)).alloc (.cells #[.int .i64 b.1, .int .i64 b.2] 2) := ⟨_, rfl⟩
  obtain ⟨W4, hW4⟩ := hbox
  have hM0 : CoM w a b 2 (2 * 0) (.slice none 0 0) [] W4 := by
    have b1 : Below w.heap.size w (w.alloc (.cells #[.int .i64 a.1, .int .i64 a.2] 23)) := (Below.refl _ w).alloc (Nat.le_refl _) _
    have b2 := b1.alloc (by simp) (.cells #[.int .i64 b.1, .int .i64 b.2] 23)
    have b3 := b2.alloc (by simp; omega) (.cells #[.int .i64 a.1, .int .i64 a.2] 2)
    have b4 := b3.alloc (by simp; omega) (.cells #[.int .i64 b.1, .int .i64 b.2] 2)
    have x3 : XB (((w.alloc (.cells #[.int .i64 a.1, .int .i64 a.2] 23)).alloc (.cells #[.int .i64 b.1, .int .i64 b.2] 23)).alloc (.cells #[.int .i64 a.1, .int .i64 a.2] 2)) (w.heap.size + 1 + 1) a := by
      have := World.alloc_heap_new ((w.alloc (.cells #[.int .i64 a.1, .int .i64 a.2] 23)).alloc (.cells #[.int .i64 b.1, .int .i64 b.2] 23)) (.cells #[.int .i64 a.1, .int .i64 a.2] 2)
      rw [World.size_alloc, World.size_alloc] at this
      exact this
    have y4 : XB W4 (w.heap.size + 1 + 1 + 1) b := by
      rw [hW4]
      have := World.alloc_heap_new (((w.alloc (.cells #[.int .i64 a.1, .int .i64 a.2] 23)).alloc (.cells #[.int .i64 b.1, .int .i64 b.2] 23)).alloc (.cells #[.int .i64 a.1, .int .i64 a.2] 2)) (.cells #[.int .i64 b.1, .int .i64 b.2] 2)
      rw [World.size_alloc, World.size_alloc, World.size_alloc] at this
      exact this
    refine ⟨rfl, World.ownsRow_nil _ _ _ _, fun j x hx => by simp at hx, ?_, y4, by rw [hW4]; exact b4⟩
    rw [hW4]
    exact x3.below ((Below.refl _ _).alloc (Nat.le_refl _) _) x3.lt
  have hqp := fun i W => Quo03_any (pick a i) (pick_bd ha i) W
  have hqq := fun i W => Quo03_any (pick b i) (pick_bd hb i) W
  have hop := fun (i k : Nat) (W : World) (s1 : Bool) (u1 v1 : Value) (s2 : Bool) (u2 v2 : Value) (h1 : FQ W 2 s1 u1 v1 (pick a i) 1) (h2 : FQ W 2 s2 u2 v2 (pick b k) 1) => opc2 (W := W) (q := pick b k) h1 h2
  have HQPA := Lib.hid hqp
  have HQQA := Lib.hid hqq
  have HOPA := Lib.hid hop
  have HM0 := Lib.hid hM0
  have HW4 := Lib.hid hW4
  clear hqp hqq hop hM0 ha hb
  unfold ivV
  go_enter Try.func67, Try.ntmps67
  go_wp2_with fail
  simp only [← HW4.out]
  go_loopw [7, 10] (fun ov iv wr => CoOut w a b 2 ov iv wr) (fun _ i _ => 2 - (intOf i).toNat)
  case atStart => exact ⟨0, [], by omega, rfl, HM0.out⟩
  case round =>
    obtain ⟨i, xs, hi, rfl, hM⟩ := hrel
    by_cases hi2 : i < 2
    · have hi0 : (0 : Int) ≤ (i : Int) := Int.natCast_nonneg _
      have hi2i : (i : Int) < 2 := by omega
      have HMI := Lib.hid hM
      clear hM
      go_wp2_with fail
      go_loopw [7, 11] (fun ov kv wr' => CoIn w a b 2 i ov kv wr') (fun _ k _ => 2 - (intOf k).toNat)
      case atStart => exact ⟨0, xs, by omega, rfl, HMI.out⟩
      case round =>
        clear HMI
        obtain ⟨k, xs, hk, rfl, hM⟩ := hrel
        by_cases hk2 : k < 2
        · have hk0 : (0 : Int) ≤ (k : Int) := Int.natCast_nonneg _
          have hk2i : (k : Int) < 2 := by omega
          have hcx := hM.x.cell hi2
          have hcy := hM.y.cell hk2
          have hOPC := HOPA.out i k
          have hQP := HQPA.out i
          have hQQ := HQQA.out k
          obtain ⟨p, hp⟩ : ∃ p, p = pick a i := ⟨_, rfl⟩
          obtain ⟨q, hq⟩ : ∃ q, q = pick b k := ⟨_, rfl⟩
          rw [← hp] at hcx hOPC hQP
          rw [← hq] at hcy hOPC hQQ
          have HOP := Lib.hid hOPC
          have HQP := Lib.hid hQP
          have HQQ := Lib.hid hQQ
          have HP := Lib.hid hp.symm
          have HQ := Lib.hid hq.symm
          have hbd : Below wr.heap.size wr (wr.alloc (.cells #[.bool false, .slice none 0 0, .slice none 0 0] 61)) := (Below.refl _ _).alloc (Nat.le_refl _) _
          have hqd := QB.new wr false (.slice none 0 0) (.slice none 0 0)
          have hnx : w.heap.size + 1 + 1 ≠ wr.heap.size := by have := hM.x.lt; omega
          have hny : w.heap.size + 1 + 1 + 1 ≠ wr.heap.size := by have := hM.y.lt; omega
          have hne := own_ne hM
          have hws := hM.bl.size
          have HNX := Lib.hid hnx
          have HNY := Lib.hid hny
          have HNE := Lib.hid hne
          have HWS := Lib.hid hws
          have HM := Lib.hid hM
          have hxd := (hM.below hbd).x.cell hi2
          have hyd := (hM.below hbd).y.cell hk2
          rw [← hp] at hxd
          rw [← hq] at hyd
          have HBD := Lib.hid hbd.drew
          have HQD := Lib.hid (show QB (wr.alloc (.cells #[.bool false, .slice none 0 0, .slice none 0 0] 61)).drew wr.heap.size false (.slice none 0 0) (.slice none 0 0) from hqd)
          clear hp hq hOPC hQP hQQ hbd hqd hnx hny hne hws hM hcx hcy
          go_wp2_with fail
          go_region_held3 (fun w' => w'.cell? ⟨w.heap.size + 1 + 1, i, none⟩ = some (.int .i64 p) ∧ w'.cell? ⟨w.heap.size + 1 + 1 + 1, k, none⟩ = some (.int .i64 q))
            (refine ⟨?_, ?_⟩ <;> first | with_reducible assumption | with_reducible exact kpx _ _ _ | with_reducible exact kpy _ _ _ | go_keep)
            (first
              | (go_at_call 53; refine Calls.mono (HQP.out _) ?_; clear HQP; rintro e w3 ⟨s1, A1, l1, c1, B1, m1, d1, N1, D1, he, hf1, ⟨hN1, hD1⟩, hb3⟩; subst he; rw [hN1, hD1] at hf1; clear hN1 hD1; have hM3 := CoM.below (CoM.below HM.out HBD.out) hb3; have xxa := XB.cell (CoM.x hM3) hi2; have yya := XB.cell (CoM.y hM3) hk2; rw [HP.out] at xxa; rw [HQ.out] at yya; have hq3 := QB.below HQD.out hb3 (QB.lt HQD.out))
              | (go_at_call 53; refine Calls.mono (HQQ.out _) ?_; clear HQQ; rintro e w4 ⟨s2, A2, l2, c2, B2, m2, d2, N2, D2, he, hf2, ⟨hN2, hD2⟩, hb4⟩; subst he; rw [hN2, hD2] at hf2; clear hN2 hD2; have hM4 := CoM.below hM3 hb4; have xxb := XB.cell (CoM.x hM4) hi2; have yyb := XB.cell (CoM.y hM4) hk2; rw [HP.out] at xxb; rw [HQ.out] at yyb; have hq4 := QB.below hq3 hb4 (QB.lt hq3); have hf14 := FQ.up hf1 hb4)
              | (go_at_call 52; refine Calls.mono (HOP.out _ _ _ _ _ _ _ hf14 hf2) ?_; clear HOP; rintro e w5 ⟨s3, A3, l3, c3, B3, m3, d3, N3, D3, he, hf3, hP3, hb5⟩; subst he; have hM5 := CoM.below hM4 hb5; have xxc := XB.cell (CoM.x hM5) hi2; have yyc := XB.cell (CoM.y hM5) hk2; rw [HP.out] at xxc; rw [HQ.out] at yyc; have hq5 := QB.below hq4 hb5 (QB.lt hq4); have r0 := hq5.c0; have r1 := hq5.c1; have r2 := hq5.c2; have r3 := hq5.fr 0; have r4 := hq5.fr 1; have r5 := hq5.fr 2; have kpx := cell_other3 (k := wr.heap.size) xxc HNX.out; have kpy := cell_other3 (k := wr.heap.size) yyc HNY.out))
          have hMW := CoM.wrote hM5 hq5 HWS.out HNE.out s3 (.slice A3 l3 c3) (.slice B3 m3 d3)
          have hqW := hq5.write s3 (.slice A3 l3 c3) (.slice B3 m3 d3)
          have hfW := FQ.wrote hf3 hq5 s3 (.slice A3 l3 c3) (.slice B3 m3 d3)
          have HMW := Lib.hid hMW
          have HFW := Lib.hid (show FV.ok ⟨s3, A3, l3, c3, B3, m3, d3, N3, D3⟩ (wroteQ w5 wr.heap.size s3 (.slice A3 l3 c3) (.slice B3 m3 d3)) 9 from hfW)
          have HP3 := Lib.hid hP3
          have z0 := hqW.c0
          have z1 := hqW.c1
          have z2 := hqW.c2
          clear hMW hqW hfW hP3 hM5 hM4 hM3 hq5 hq4 hq3 hf1 hf2 hf3 hf14 hb3 hb4 hb5 r0 r1 r2 r3 r4 r5 kpx kpy xxa yya xxb yyb xxc yyc
          simp only [wroteQ] at HMW HFW z0 z1 z2
          generalize ((w5.setCell _ _).setCell _ _).setCell _ _ = W9 at *
          have hown := HMW.out.own
          have HSZ := Lib.hid HMW.out.bl.size
          go_wp2_with (at_builtin; refine append_quo rfl (.tmp 95) (.tmp 97) rfl (xs := xs) (z := ⟨s3, A3, l3, c3, B3, m3, d3, N3, D3⟩) rfl rfl hown HSZ.out (by omega) ?_; intro v' w10 hown10 hgr10)
          have hfin := CoM.snoc HMW.out HFW.out (by
            have e1 : (2 * i + k) / 2 = i := by omega
            have e2 : (2 * i + k) % 2 = k := by omega
            rw [e1, e2, HP.out, HQ.out]
            exact HP3.out) hown10 hgr10
          go_roundw
          case rel => exact ⟨k + 1, _, by omega, by go_num, hfin⟩
          case measure => simp [intOf]; omega
        · obtain rfl : k = 2 := by omega
          have HM := Lib.hid hM
          clear hM
          go_wp2_with fail
          go_roundw
          case rel => exact ⟨i + 1, xs, by omega, by go_num, by have h := HM.out; rw [show 2 * (i + 1) = 2 * i + 2 by omega]; exact h⟩
          case measure => simp [intOf]; omega
    · obtain rfl : i = 2 := by omega
      have HM := Lib.hid hM.post
      clear hM
      go_wp2_with fail
      go_ret
      exact HM.out

set_option maxRecDepth 100000 in
set_option maxHeartbeats 4000000 in
theorem corners3_any (a b : Int × Int) (w : World) (ha : okB a.1 = true ∧ okB a.2 = true) (hb : okB b.1 = true ∧ okB b.2 = true) (h0 : b.1 ≠ 0 ∧ b.2 ≠ 0) :
    Calls Try.prog 67 #[ivV a, ivV b, .int .i64 3] w (CoPost w a b 3) := by
  have hbox : ∃ W4, W4 = (((w.alloc (.cells #[.int .i64 a.1, .int .i64 a.2] 23)).alloc (.cells #[.int .i64 b.1, .int .i64 b.2] 23)).alloc (.cells #[.int .i64 a.1, .int .i64 a.2] 2)).alloc (.cells #[.int .i64 b.1, .int .i64 b.2] 2) := ⟨_, rfl⟩
  obtain ⟨W4, hW4⟩ := hbox
  have hM0 : CoM w a b 3 (2 * 0) (.slice none 0 0) [] W4 := by
    have b1 : Below w.heap.size w (w.alloc (.cells #[.int .i64 a.1, .int .i64 a.2] 23)) := (Below.refl _ w).alloc (Nat.le_refl _) _
    have b2 := b1.alloc (by simp) (.cells #[.int .i64 b.1, .int .i64 b.2] 23)
    have b3 := b2.alloc (by simp; omega) (.cells #[.int .i64 a.1, .int .i64 a.2] 2)
    have b4 := b3.alloc (by simp; omega) (.cells #[.int .i64 b.1, .int .i64 b.2] 2)
    have x3 : XB (((w.alloc (.cells #[.int .i64 a.1, .int .i64 a.2] 23)).alloc (.cells #[.int .i64 b.1, .int .i64 b.2] 23)).alloc (.cells #[.int .i64 a.1, .int .i64 a.2] 2)) (w.heap.size + 1 + 1) a := by
      have := World.alloc_heap_new ((w.alloc (.cells #[.int .i64 a.1, .int .i64 a.2] 23)).alloc (.cells #[.int .i64 b.1, .int .i64 b.2] 23)) (.cells #[.int .i64 a.1, .int .i64 a.2] 2)
      rw [World.size_alloc, World.size_alloc] at this
      exact this
    have y4 : XB W4 (w.heap.size + 1 + 1 + 1) b := by
      rw [hW4]
      have := World.alloc_heap_new (((w.alloc (.cells #[.int .i64 a.1, .int .i64 a.2] 23)).alloc (.cells #[.int .i64 b.1, .int .i64 b.2] 23)).alloc (.cells #[.int .i64 a.1, .int .i64 a.2] 2)) (.cells #[.int .i64 b.1, .int .i64 b.2] 2)
      rw [World.size_alloc, World.size_alloc, World.size_alloc] at this
      exact this
    refine ⟨rfl, World.ownsRow_nil _ _ _ _, fun j x hx => by simp at hx, ?_, y4, by rw [hW4]; exact b4⟩
    rw [hW4]
    exact x3.below ((Below.refl _ _).alloc (Nat.le_refl _) _) x3.lt
  have hqp := fun i W => Quo03_any (pick a i) (pick_bd ha i) W
  have hqq := fun i W => Quo03_any (pick b i) (pick_bd hb i) W
  have hop := fun (i k : Nat) (W : World) (s1 : Bool) (u1 v1 : Value) (s2 : Bool) (u2 v2 : Value) (h1 : FQ W 2 s1 u1 v1 (pick a i) 1) (h2 : FQ W 2 s2 u2 v2 (pick b k) 1) => opc3 (W := W) (q := pick b k) h1 h2 (by unfold pick; split; exact h0.1; exact h0.2)
  have HQPA := Lib.hid hqp
  have HQQA := Lib.hid hqq
  have HOPA := Lib.hid hop
  have HM0 := Lib.hid hM0
  have HW4 := Lib.hid hW4
  clear hqp hqq hop hM0 ha hb h0
  unfold ivV
  go_enter Try.func67, Try.ntmps67
  go_wp2_with fail
  simp only [← HW4.out]
  go_loopw [7, 10] (fun ov iv wr => CoOut w a b 3 ov iv wr) (fun _ i _ => 2 - (intOf i).toNat)
  case atStart => exact ⟨0, [], by omega, rfl, HM0.out⟩
  case round =>
    obtain ⟨i, xs, hi, rfl, hM⟩ := hrel
    by_cases hi2 : i < 2
    · have hi0 : (0 : Int) ≤ (i : Int) := Int.natCast_nonneg _
      have hi2i : (i : Int) < 2 := by omega
      have HMI := Lib.hid hM
      clear hM
      go_wp2_with fail
      go_loopw [7, 11] (fun ov kv wr' => CoIn w a b 3 i ov kv wr') (fun _ k _ => 2 - (intOf k).toNat)
      case atStart => exact ⟨0, xs, by omega, rfl, HMI.out⟩
      case round =>
        clear HMI
        obtain ⟨k, xs, hk, rfl, hM⟩ := hrel
        by_cases hk2 : k < 2
        · have hk0 : (0 : Int) ≤ (k : Int) := Int.natCast_nonneg _
          have hk2i : (k : Int) < 2 := by omega
          have hcx := hM.x.cell hi2
          have hcy := hM.y.cell hk2
          have hOPC := HOPA.out i k
          have hQP := HQPA.out i
          have hQQ := HQQA.out k
          obtain ⟨p, hp⟩ : ∃ p, p = pick a i := ⟨_, rfl⟩
          obtain ⟨q, hq⟩ : ∃ q, q = pick b k := ⟨_, rfl⟩
          rw [← hp] at hcx hOPC hQP
          rw [← hq] at hcy hOPC hQQ
          have HOP := Lib.hid hOPC
          have HQP := Lib.hid hQP
          have HQQ := Lib.hid hQQ
          have HP := Lib.hid hp.symm
          have HQ := Lib.hid hq.symm
          have hbd : Below wr.heap.size wr (wr.alloc (.cells #[.bool false, .slice none 0 0, .slice none 0 0] 61)) := (Below.refl _ _).alloc (Nat.le_refl _) _
          have hqd := QB.new wr false (.slice none 0 0) (.slice none 0 0)
          have hnx : w.heap.size + 1 + 1 ≠ wr.heap.size := by have := hM.x.lt; omega
          have hny : w.heap.size + 1 + 1 + 1 ≠ wr.heap.size := by have := hM.y.lt; omega
          have hne := own_ne hM
          have hws := hM.bl.size
          have HNX := Lib.hid hnx
          have HNY := Lib.hid hny
          have HNE := Lib.hid hne
          have HWS := Lib.hid hws
          have HM := Lib.hid hM
          have hxd := (hM.below hbd).x.cell hi2
          have hyd := (hM.below hbd).y.cell hk2
          rw [← hp] at hxd
          rw [← hq] at hyd
          have HBD := Lib.hid hbd.drew
          have HQD := Lib.hid (show QB (wr.alloc (.cells #[.bool false, .slice none 0 0, .slice none 0 0] 61)).drew wr.heap.size false (.slice none 0 0) (.slice none 0 0) from hqd)
          clear hp hq hOPC hQP hQQ hbd hqd hnx hny hne hws hM hcx hcy
          go_wp2_with fail
          go_region_held3 (fun w' => w'.cell? ⟨w.heap.size + 1 + 1, i, none⟩ = some (.int .i64 p) ∧ w'.cell? ⟨w.heap.size + 1 + 1 + 1, k, none⟩ = some (.int .i64 q))
            (refine ⟨?_, ?_⟩ <;> first | with_reducible assumption | with_reducible exact kpx _ _ _ | with_reducible exact kpy _ _ _ | go_keep)
            (first
              | (go_at_call 53; refine Calls.mono (HQP.out _) ?_; clear HQP; rintro e w3 ⟨s1, A1, l1, c1, B1, m1, d1, N1, D1, he, hf1, ⟨hN1, hD1⟩, hb3⟩; subst he; rw [hN1, hD1] at hf1; clear hN1 hD1; have hM3 := CoM.below (CoM.below HM.out HBD.out) hb3; have xxa := XB.cell (CoM.x hM3) hi2; have yya := XB.cell (CoM.y hM3) hk2; rw [HP.out] at xxa; rw [HQ.out] at yya; have hq3 := QB.below HQD.out hb3 (QB.lt HQD.out))
              | (go_at_call 53; refine Calls.mono (HQQ.out _) ?_; clear HQQ; rintro e w4 ⟨s2, A2, l2, c2, B2, m2, d2, N2, D2, he, hf2, ⟨hN2, hD2⟩, hb4⟩; subst he; rw [hN2, hD2] at hf2; clear hN2 hD2; have hM4 := CoM.below hM3 hb4; have xxb := XB.cell (CoM.x hM4) hi2; have yyb := XB.cell (CoM.y hM4) hk2; rw [HP.out] at xxb; rw [HQ.out] at yyb; have hq4 := QB.below hq3 hb4 (QB.lt hq3); have hf14 := FQ.up hf1 hb4)
              | (go_at_call 73; refine Calls.mono (HOP.out _ _ _ _ _ _ _ hf14 hf2) ?_; clear HOP; rintro e w5 ⟨s3, A3, l3, c3, B3, m3, d3, N3, D3, he, hf3, hP3, hb5⟩; subst he; have hM5 := CoM.below hM4 hb5; have xxc := XB.cell (CoM.x hM5) hi2; have yyc := XB.cell (CoM.y hM5) hk2; rw [HP.out] at xxc; rw [HQ.out] at yyc; have hq5 := QB.below hq4 hb5 (QB.lt hq4); have r0 := hq5.c0; have r1 := hq5.c1; have r2 := hq5.c2; have r3 := hq5.fr 0; have r4 := hq5.fr 1; have r5 := hq5.fr 2; have kpx := cell_other3 (k := wr.heap.size) xxc HNX.out; have kpy := cell_other3 (k := wr.heap.size) yyc HNY.out))
          have hMW := CoM.wrote hM5 hq5 HWS.out HNE.out s3 (.slice A3 l3 c3) (.slice B3 m3 d3)
          have hqW := hq5.write s3 (.slice A3 l3 c3) (.slice B3 m3 d3)
          have hfW := FQ.wrote hf3 hq5 s3 (.slice A3 l3 c3) (.slice B3 m3 d3)
          have HMW := Lib.hid hMW
          have HFW := Lib.hid (show FV.ok ⟨s3, A3, l3, c3, B3, m3, d3, N3, D3⟩ (wroteQ w5 wr.heap.size s3 (.slice A3 l3 c3) (.slice B3 m3 d3)) 9 from hfW)
          have HP3 := Lib.hid hP3
          have z0 := hqW.c0
          have z1 := hqW.c1
          have z2 := hqW.c2
          clear hMW hqW hfW hP3 hM5 hM4 hM3 hq5 hq4 hq3 hf1 hf2 hf3 hf14 hb3 hb4 hb5 r0 r1 r2 r3 r4 r5 kpx kpy xxa yya xxb yyb xxc yyc
          simp only [wroteQ] at HMW HFW z0 z1 z2
          generalize ((w5.setCell _ _).setCell _ _).setCell _ _ = W9 at *
          have hown := HMW.out.own
          have HSZ := Lib.hid HMW.out.bl.size
          go_wp2_with (at_builtin; refine append_quo rfl (.tmp 95) (.tmp 97) rfl (xs := xs) (z := ⟨s3, A3, l3, c3, B3, m3, d3, N3, D3⟩) rfl rfl hown HSZ.out (by omega) ?_; intro v' w10 hown10 hgr10)
          have hfin := CoM.snoc HMW.out HFW.out (by
            have e1 : (2 * i + k) / 2 = i := by omega
            have e2 : (2 * i + k) % 2 = k := by omega
            rw [e1, e2, HP.out, HQ.out]
            exact HP3.out) hown10 hgr10
          go_roundw
          case rel => exact ⟨k + 1, _, by omega, by go_num, hfin⟩
          case measure => simp [intOf]; omega
        · obtain rfl : k = 2 := by omega
          have HM := Lib.hid hM
          clear hM
          go_wp2_with fail
          go_roundw
          case rel => exact ⟨i + 1, xs, by omega, by go_num, by have h := HM.out; rw [show 2 * (i + 1) = 2 * i + 2 by omega]; exact h⟩
          case measure => simp [intOf]; omega
    · obtain rfl : i = 2 := by omega
      have HM := Lib.hid hM.post
      clear hM
      go_wp2_with fail
      go_ret
      exact HM.out
end Go.Proofs.Ytmmgbofhbnflkaa
