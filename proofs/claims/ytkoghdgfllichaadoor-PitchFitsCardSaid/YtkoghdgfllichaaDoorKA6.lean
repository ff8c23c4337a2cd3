import Derived.Test.YtkoghdgfllichaaDoorKA5
import Derived.WalkMore
import Derived.StillTailTactics
import Derived.Deep.RegionHeld3
import Derived.Laws.StructEq
namespace Go.Proofs.YtkoghdgfllichaaDoor
open Go.RowKit

def optI : Option Value → Int
  | some (.int _ n) => n
  | _ => 0
/-- The terms of a slice, read out of memory. -/
def decT (w : World) : Value → List (Nat × Int)
  | .slice (some a) n _ => (List.range n).map fun k => ((optI (w.cell? ⟨a.block, k * 2, none⟩)).toNat, optI (w.cell? ⟨a.block, k * 2 + 1, none⟩))
  | _ => []
theorem RowT.dec {w : World} {B : Nat} {v : Value} {l : List (Nat × Int)} (h : RowT w B v l) : decT w v = l := by
  obtain ⟨A, cap, rfl, -, -, ⟨rfl, h0, -⟩ | ⟨g, rfl, -, -, hc⟩⟩ := h.form
  · exact (List.eq_nil_of_length_eq_zero h0).symm
  · apply List.ext_getElem?
    intro k
    show ((List.range l.length).map _)[k]? = _
    rw [List.getElem?_map]
    by_cases hk : k < l.length
    · obtain ⟨x, hx⟩ : ∃ x, l[k]? = some x := ⟨l[k], List.getElem?_eq_getElem hk⟩
      obtain ⟨c1, c2⟩ := hc k x hx
      rw [hx, List.getElem?_range hk]
      simp only [Option.map_some, c1, c2, optI, Int.toNat_natCast]
    · rw [List.getElem?_eq_none (l := l) (by omega), List.getElem?_eq_none (l := List.range l.length) (by rw [List.length_range]; omega)]
      rfl
theorem allN_le62 {l : List (Nat × Int)} (h : ∀ x ∈ l, x.1 < 4611686018427387904) : 2 ^ l.length * allN l ≤ 2 ^ (63 * l.length) := by
  induction l with
  | nil => exact Nat.le_refl _
  | cons x r ih =>
    have h1 := ih fun y hy => h y (List.mem_cons_of_mem _ hy)
    have h2 := h x List.mem_cons_self
    have e : 2 ^ (x :: r).length * allN (x :: r) = (2 * x.1) * (2 ^ r.length * allN r) := by
      show 2 ^ (r.length + 1) * (x.1 * allN r) = _
      rw [Nat.pow_succ]; ac_rfl
    rw [e, List.length_cons, Nat.mul_add, Nat.pow_add, Nat.mul_comm (2 ^ (63 * r.length))]
    exact Nat.mul_le_mul (by omega) h1
theorem OneRel.start62 {l : List (Nat × Int)} {B K : Nat} (hn : ∀ x ∈ l, 1 ≤ x.1 ∧ x.1 < 4611686018427387904) (ha : allP l ≤ 2 ^ B) (he : ∀ x ∈ l, x.2.natAbs ≤ B) (hl : 63 * l.length ≤ K) : OneRel l B K l [] :=
  OneRel.start (fun x hx => (hn x hx).1) ha he (Nat.le_trans (allN_le62 fun x hx => (hn x hx).2) (Nat.pow_le_pow_right (by decide) hl))
theorem news_T {w : World} {g o' : Nat} {r : List (Nat × Int)} (hcells : ∀ k y, r[k]? = some y → w.cell? ⟨g, o' + k * 2, none⟩ = some (.int .i64 (y.1 : Int)) ∧ w.cell? ⟨g, o' + k * 2 + 1, none⟩ = some (.int .i64 y.2)) : ∀ j u, (encT r)[j]? = some u → w.cell? ((⟨g, o', none⟩ : Addr).add j) = some u := by
  intro j u hu
  have hj : j < (encT r).length := (List.getElem?_eq_some_iff.1 hu).1
  rw [encT_len] at hj
  obtain ⟨y, hy⟩ : ∃ y, r[j / 2]? = some y := ⟨r[j / 2]'(by omega), List.getElem?_eq_getElem (by omega)⟩
  obtain ⟨e1, e2⟩ := encT_at r _ y hy
  obtain ⟨c1, c2⟩ := hcells _ y hy
  have ea : (⟨g, o', none⟩ : Addr).add j = ⟨g, o' + j, none⟩ := by unfold Addr.add; split <;> simp_all
  rw [ea]
  rcases Nat.mod_two_eq_zero_or_one j with hm2 | hm2
  · have : j / 2 * 2 = j := by omega
    rw [this] at e1 c1
    rw [e1] at hu
    cases hu
    exact c1
  · have h1 : j / 2 * 2 + 1 = j := by omega
    have h2 : o' + j / 2 * 2 + 1 = o' + j := by omega
    rw [h1] at e2
    rw [h2] at c2
    rw [e2] at hu
    cases hu
    exact c2
def IoRel (w : World) (l : List (Nat × Int)) (B : Nat) (rv av : Value) (wr : World) : Prop :=
  ∃ R A, RowT wr w.heap.size rv R ∧ RowT wr w.heap.size av A ∧ OneRel l B 63000 R A ∧ (∀ x ∈ R ++ A, x.1 < 4611686018427387904) ∧ (∀ g, rv.ownBlock = some g → av.ownBlock ≠ some g) ∧ Below w.heap.size w wr
def IiRel (w1 : World) (n : Nat) (A : List (Nat × Int)) (rv0 av0 rv av iv : Value) (wr : World) : Prop :=
  ∃ j : Nat, j ≤ A.length ∧ iv = .int .i64 (j : Int) ∧ rv = rv0 ∧ av = av0 ∧ (∀ y ∈ A.take j, Nat.gcd n y.1 = 1) ∧ Below w1.heap.size w1 wr
theorem append_any {ops : Array Oper} {rest : List Oper} {o : Oper} {a : Act} {Q : Exit → Act → World → Prop} {w : World} {B : Nat} (hgd : o.guard = none) (s x : Operand)
    (ho : o.op = .call { callee := .builtin .append, args := #[s, x], argTypes := #[69, 69] }) {v : Value} {l r : List (Nat × Int)} (hs : a.eval s = v) (hown : RowT w B v l)
    (g o' c : Nat) (hx : a.eval x = .slice (some ⟨g, o', none⟩) r.length c) (hcells : ∀ k y, r[k]? = some y → w.cell? ⟨g, o' + k * 2, none⟩ = some (.int .i64 (y.1 : Int)) ∧ w.cell? ⟨g, o' + k * 2 + 1, none⟩ = some (.int .i64 y.2))
    (hn : l.length + r.length ≤ 1000000) (hbase : B ≤ w.heap.size)
    (h : ∀ v' w', RowT w' B v' (l ++ r) → w.grownBy w' v.ownBlock → (v'.ownBlock = v.ownBlock ∨ v'.ownBlock = some w.heap.size) → wpList Tryd.prog ops Q rest (a.put o.dst v') w') :
    wpList Tryd.prog ops Q (o :: rest) a w := by
  obtain ⟨i0, hi0, hz0, hz1, hz2⟩ := info_parts Tryd.infoT
  refine wpList_append_own_at _ hgd s x 69 ho B 75 i0 _ 2 16 Tryd.underlying69 hi0 hz0 hz1 hz2 rfl (by decide) v l.length (encT l) hs hown ⟨g, o', none⟩ r.length c (encT r) hx (encT_len r) (news_T hcells) (one_encT r) (by unfold maxLen; omega) (by omega) hbase ?_
  intro v' w' h2 h3 _ h5
  refine h v' w' ?_ h3 h5
  unfold RowT
  rw [List.length_append, encT_append]
  exact h2
theorem append_tmc {ops : Array Oper} {rest : List Oper} {o : Oper} {a : Act} {Q : Exit → Act → World → Prop} {w : World} {B : Nat} (hgd : o.guard = none) (s x : Operand)
    (ho : o.op = .call { callee := .builtin .append, args := #[s, x], argTypes := #[69, 69] }) {v : Value} {l : List (Nat × Int)} (hs : a.eval s = .slice none 0 0) (hx : a.eval x = v) (hv : TmC w B v l) (hn : l.length ≤ 1000000)
    (h : ∀ v' w', RowT w' w.heap.size v' l → w.grownBy w' none → wpList Tryd.prog ops Q rest (a.put o.dst v') w') :
    wpList Tryd.prog ops Q (o :: rest) a w := by
  obtain ⟨i0, hi0, hz0, hz1, hz2⟩ := info_parts Tryd.infoT
  obtain ⟨A, cap, rfl, hc, hcells⟩ := hv
  cases A with
  | none =>
    have hl : l = [] := by
      by_cases h0 : l = []
      · exact h0
      · obtain ⟨g, o2, e, -⟩ := hcells h0
        cases e
    subst hl
    have hr : (Builtin.append_ #[69, 69] o.type #[.slice none 0 0, .slice none 0 cap]).run Tryd.prog w = .ok (.slice none 0 0) w := by
      simp [Builtin.append_, run_underlying Tryd.underlying69, sizeOf, typeInfo, hi0, Builtin.lenOf, Builtin.firstCells]
    refine wpList_plain hgd fun K hK => ?_
    unfold Oper.wp execOp
    have hx' : a.eval x = .slice none 0 cap := hx
    simp only [ho, resolve, invoke, builtin, Sem.run_bind, Sem.run_pure, Result.andThen_ok, List.map_toArray, List.map_cons, List.map_nil, hs, hx', hr]
    exact hK _ _ (h _ _ (RowT.nil _ _) (grownBy_refl _ _))
  | some ad =>
    refine wpList_append_own_at _ hgd s x 69 ho w.heap.size 75 i0 _ 2 16 Tryd.underlying69 hi0 hz0 hz1 hz2 rfl (by decide) (.slice none 0 0) 0 [] hs (World.ownsRow_nil _ _ _ _) ad l.length cap (encT l) hx (encT_len l) ?_ (one_encT l) (by unfold maxLen; omega) (by omega) (Nat.le_refl _) ?_
    · by_cases h0 : l = []
      · subst h0; intro j u hu; simp [encT] at hu
      · obtain ⟨g, o2, e, -, hc2⟩ := hcells h0
        cases e
        exact news_T hc2
    · intro v' w' h2 h3 _ _
      refine h v' w' ?_ h3
      have h2 : w'.ownsRow w.heap.size 75 2 v' (0 + l.length) ([] ++ encT l) := h2
      rw [Nat.zero_add, List.nil_append] at h2
      exact h2
theorem mem_mid {R A : List (Nat × Int)} {t y : Nat × Int} (h : y ∈ R ++ A) : y ∈ R ++ [t] ++ A := by
  simp only [List.mem_append] at h ⊢
  rcases h with h | h
  · exact .inl (.inl h)
  · exact .inr h
theorem Io_close {w wr w2 : World} {l : List (Nat × Int)} {B r : Nat} {rv av av2 : Value} {bR : Option Addr} {capR : Nat} {R A R2 A2 : List (Nat × Int)} (h1 : RowT w2 w.heap.size (.slice bR R2.length capR) R2) (h2 : RowT w2 w.heap.size av2 A2) (h3 : OneRel l B 63000 R2 A2)
    (h4 : ∀ x ∈ R2 ++ A2, x.1 < 4611686018427387904) (h5 : ∀ g, (Value.slice bR R2.length capR).ownBlock = some g → av2.ownBlock ≠ some g) (h6 : Below w.heap.size w w2) (h7 : oneM 63000 R2 A2 < oneM 63000 R A) (d1 : decT wr rv = R) (d2 : decT wr av = A) (hr : r = R2.length) :
    IoRel w l B (.slice bR r capR) av2 w2 ∧ oneM 63000 (decT w2 (.slice bR r capR)) (decT w2 av2) < oneM 63000 (decT wr rv) (decT wr av) := by
  subst hr
  exact ⟨⟨R2, A2, h1, h2, h3, h4, h5, h6⟩, by rw [h1.dec, h2.dec, d1, d2]; exact h7⟩
theorem cells_one (w : World) (n : Nat) (x : Int) : ∀ k y, [(n, x)][k]? = some y → (w.alloc (.cells #[.int .i64 (n : Int), .int .i64 x] 75)).cell? ⟨w.heap.size, 0 + k * 2, none⟩ = some (.int .i64 (y.1 : Int)) ∧ (w.alloc (.cells #[.int .i64 (n : Int), .int .i64 x] 75)).cell? ⟨w.heap.size, 0 + k * 2 + 1, none⟩ = some (.int .i64 y.2) := by
  intro k y h
  match k, h with
  | 0, h =>
    simp at h; subst h
    exact ⟨Go.Joins.cell_of_block (heap_alloc_new w _) 0, Go.Joins.cell_of_block (heap_alloc_new w _) 1⟩
set_option maxRecDepth 100000 in
set_option maxHeartbeats 4000000 in
theorem isOne_any (v : Value) (l : List (Nat × Int)) (B : Nat) (w : World) (hv : TmC w w.heap.size v l) (hn : ∀ x ∈ l, 1 ≤ x.1 ∧ x.1 < 4611686018427387904) (ha : allP l ≤ 2 ^ B) (he : ∀ x ∈ l, x.2.natAbs ≤ B) (hB : B ≤ 9200000000000000000) (hlen : l.length ≤ 1000) :
    Calls Tryd.prog 71 #[v] w fun e w' => e = .returned (.bool (decide (sgnP l = 0))) ∧ Below w.heap.size w w' := by
  have hst : OneRel l B 63000 l [] := OneRel.start62 hn ha he (by omega)
  have hpos : posN l := fun x hx => (hn x hx).1
  have HN := Lib.hid fun x hx => (hn x hx).2
  have HST := Lib.hid hst
  have HPOS := Lib.hid hpos
  clear hn ha he hst hpos
  obtain ⟨A, capv, rfl, hcap, -⟩ := id hv
  go_enter Tryd.func71, Tryd.ntmps71
  go_wp2
  go_step3
  go_wp2_with (at_builtin; refine append_tmc rfl (.const (.slice none 0 0)) (.tmp 9) rfl (l := l) rfl rfl hv (by omega) ?_; intro v4 w1 hrow hgr)
  have hb1 : Below w.heap.size w w1 := (Below.refl _ _).grown hgr (Nat.le_refl _) (fun k hk => by cases hk)
  have HROW := Lib.hid hrow
  have HB1 := Lib.hid hb1
  clear hrow hgr hb1 hv hcap
  go_step3
  go_wp2_with fail
  go_loopw [4, 3] (fun rv av wr => IoRel w l B rv av wr) (fun rv av wr => oneM 63000 (decT wr rv) (decT wr av))
  case atStart => exact ⟨l, [], HROW.out, RowT.nil _ _, HST.out, fun x hx => HN.out x (by simpa using hx), fun g _ e => by simp [Value.ownBlock] at e, HB1.out⟩
  case round =>
    clear HROW HB1 HST
    obtain ⟨R, A, hR, hA, hone, hsm, hne, hb⟩ := hrel
    have HONE := Lib.hid hone
    have HSM := Lib.hid hsm
    have HNE := Lib.hid hne
    have HB := Lib.hid hb
    have HA := Lib.hid hA
    have HR := Lib.hid hR
    obtain ⟨bA, capA, rfl, hcA, hmA, hfA⟩ := hA.form
    obtain ⟨bR, capR, rfl, hcR, hmR, hfR⟩ := hR.form
    have hlen2 := hone.len
    have HFA := Lib.hid hfA
    clear hfA hone hsm hne hb hA hR
    rcases List.eq_nil_or_concat R with rfl | ⟨R', ⟨n, x⟩, hRe⟩
    · have e := (HONE.out.done HPOS.out)
      by_cases hAe : A = []
      · subst hAe
        have e2 : decide (sgnP l = 0) = true := by rw [decide_eq_true_iff]; exact e.2 rfl
        have HE := Lib.hid e2
        clear e e2
        go_wp2
        rw [Exit.noGoto_ret]
        go_ret
        exact ⟨by rw [HE.out]; rfl, HB.out⟩
      · have e2 : decide (sgnP l = 0) = false := by rw [decide_eq_false_iff_not]; exact fun h => hAe (e.1 h)
        have hpos := List.length_pos_iff.2 hAe
        have HE := Lib.hid e2
        clear e e2
        go_wp2
        rw [Exit.noGoto_ret]
        go_ret
        exact ⟨by rw [HE.out]; simp; omega, HB.out⟩
    · have hRe : R = R' ++ [(n, x)] := by rw [hRe]; simp
      subst hRe
      have hlR : (R' ++ [(n, x)]).length = R'.length + 1 := by simp
      rw [hlR] at hcR hlen2 hfR
      rcases hfR with ⟨-, h0, -⟩ | ⟨gR, rfl, hgR1, hgR2, hcell⟩
      · omega
      have hR := HR.out
      rw [hlR] at hR
      have hpop := RowT.pop hR
      have HR1 := Lib.hid hpop
      obtain ⟨c0, c1⟩ := hcell R'.length (n, x) (by simp)
      have hne2 : ∀ g, (Value.slice (some ⟨gR, 0, none⟩) R'.length capR).ownBlock = some g → (Value.slice bA A.length capA).ownBlock ≠ some g := fun g e => HNE.out g (by simpa [Value.ownBlock] using e)
      have HNE2 := Lib.hid hne2
      have hdec := HR.out.dec
      rw [hlR] at hdec ⊢
      clear hne2
      clear HR hR hpop hcell HNE hlR
      obtain ⟨r, hr⟩ : ∃ r, r = R'.length := ⟨_, rfl⟩
      have HRL := Lib.hid hr
      rw [← hr] at hcR hlen2 c0 c1 hdec ⊢
      clear hr
      have hn2 := HSM.out (n, x) (by simp)
      have hx2 := HONE.out.exp (n, x) (by simp)
      simp only at hn2 hx2
      have s1 : ((r : Int) + 1) - 1 = (r : Int) := by omega
      have s2 : IntKind.i64.wrap (r : Int) = (r : Int) := IntWalk.i64_in _ (by omega)
      have s3 : (0 : Int) ≤ (r : Int) := Int.natCast_nonneg _
      have s4 : (r : Int) < (r : Int) + 1 := by omega
      have HD1 := Lib.hid hdec
      have HD2 := Lib.hid HA.out.dec
      clear hdec
      by_cases hn1 : n = 1
      · subst hn1
        go_wp2
        exact Io_close (HR1.out.up ((Below.refl _ _).alloc (Nat.le_refl _) _)) (HA.out.up ((Below.refl _ _).alloc (Nat.le_refl _) _)) (HONE.out.drop (.inl rfl)).1 (fun y hy => HSM.out y (mem_mid hy)) HNE2.out (HB.out.alloc HB.out.size _) (HONE.out.drop (.inl rfl)).2 HD1.out HD2.out HRL.out
      by_cases hx0 : x = 0
      · subst hx0
        go_wp2
        exact Io_close (HR1.out.up ((Below.refl _ _).alloc (Nat.le_refl _) _)) (HA.out.up ((Below.refl _ _).alloc (Nat.le_refl _) _)) (HONE.out.drop (.inr rfl)).1 (fun y hy => HSM.out y (mem_mid hy)) HNE2.out (HB.out.alloc HB.out.size _) (HONE.out.drop (.inr rfl)).2 HD1.out HD2.out HRL.out
      have q1 : ((n : Int) == 1) = false := beq_false_of_ne (by omega)
      have q2 : (x == 0) = false := beq_false_of_ne hx0
      go_wp2
      obtain ⟨w2, hw2⟩ : ∃ w2, w2 = wr.alloc (Obj.cells #[Value.int IntKind.i64 ↑n, Value.int IntKind.i64 x] 75) := ⟨_, rfl⟩
      rw [← hw2]
      have hT2 : w2.heap[wr.heap.size]? = some (.cells #[.int .i64 (n : Int), .int .i64 x] 75 (0, 0)) := by rw [hw2]; exact heap_alloc_new _ _
      have hb2 : Below wr.heap.size wr w2 := by rw [hw2]; exact (Below.refl _ _).alloc (Nat.le_refl _) _
      have hz2 : w2.heap.size = wr.heap.size + 1 := by rw [hw2]; simp
      have HT2 := Lib.hid hT2
      have HB2 := Lib.hid hb2
      have HZ2 := Lib.hid hz2
      clear hT2 hb2 hz2 hw2 c0 c1 s1 s2 s3 s4 q1 q2
      obtain ⟨tb, htb⟩ : ∃ tb, tb = wr.heap.size := ⟨_, rfl⟩
      rw [← htb]
      have HTB := Lib.hid htb
      clear htb
      go_loopw [4, 3, 35] (fun rv av iv wv => IiRel w2 n A (.slice (some ⟨gR, 0, none⟩) r capR) (.slice bA A.length capA) rv av iv wv) (fun _ _ iv _ => A.length - (intOf iv).toNat)
      case atStart => exact ⟨0, Nat.zero_le _, rfl, rfl, rfl, fun y hy => (by cases hy), Below.refl _ _⟩
      case round =>
        obtain ⟨j, hj, rfl, rfl, rfl, hcop, hb3⟩ := hrel
        have HCOP := Lib.hid hcop
        have HB3 := Lib.hid hb3
        have ht3 : wr.heap[tb]? = some (.cells #[.int .i64 (n : Int), .int .i64 x] 75 (0, 0)) := by
          rw [HTB.out]
          exact (hb3.block _ (by have := HZ2.out; omega)).trans HT2.out
        have k0 : wr.cell? ⟨tb, 0, none⟩ = some (.int .i64 (n : Int)) := Go.Joins.cell_of_block ht3 0
        have k1 : wr.cell? ⟨tb, 1, none⟩ = some (.int .i64 x) := Go.Joins.cell_of_block ht3 1
        have HT3 := Lib.hid ht3
        clear hcop hb3 ht3
        by_cases hjl : j < A.length
        · have hA3 : RowT wr w.heap.size (.slice bA A.length capA) A := (HA.out.up HB2.out).up HB3.out
          obtain ⟨bA', cap', e, -, -, hf⟩ := hA3.form
          cases e
          rcases hf with ⟨-, h0, -⟩ | ⟨gA, rfl, hgA1, hgA2, hcellA⟩
          · omega
          obtain ⟨y, hy⟩ : ∃ y, A[j]? = some y := ⟨A[j], List.getElem?_eq_getElem hjl⟩
          obtain ⟨m0, m1⟩ := hcellA j y hy
          obtain ⟨m, z⟩ := y
          simp only at m0 m1
          have hm2 := HSM.out (m, z) (by simp [List.mem_of_getElem? hy])
          simp only at hm2
          have hgcd := fun W' => gcd_int64 (n : Int) (m : Int) 4611686018427387904 W' (by omega) (by omega) (by omega) (by omega) (by omega)
          simp only [Int.natAbs_natCast] at hgcd
          obtain ⟨d, hd⟩ : ∃ d, d = Nat.gcd n m := ⟨_, rfl⟩
          rw [← hd] at hgcd
          have htb3 : tb < wr.heap.size := by have := HTB.out; have := HZ2.out; have := HB3.out.size; omega
          have htb4 : tb ≠ wr.heap.size := by omega
          have hjI : (j : Int) < (A.length : Int) := by omega
          have HY := Lib.hid hy
          have HDD := Lib.hid hd
          have HA3 := Lib.hid hA3
          have HCA := Lib.hid hcellA
          have HG := Lib.hid hgcd
          clear hy hd hA3 hcellA hgcd
          go_wp2_with fail
          refine (HG.out _).mono ?_
          rintro e w3 ⟨he, hdr⟩
          subst he
          obtain ⟨ub, hub⟩ : ∃ ub, ub = wr.heap.size := ⟨_, rfl⟩
          rw [← hub] at htb3 htb4 ⊢
          have hU3 : w3.heap[ub]? = some (.cells #[.int .i64 (m : Int), .int .i64 z] 75 (0, 0)) := by
            rw [hub]
            exact (hdr.below.block _ (by simp)).trans (heap_alloc_new _ _)
          have hB3 : Below wr.heap.size wr w3 := ((Below.refl _ _).alloc (Nat.le_refl _) _).trans (hdr.below.mono (by simp))
          have hz3 : w3.heap.size = ub + 1 := by rw [hdr.size, hub]; simp
          have hT3' : w3.heap[tb]? = some (.cells #[.int .i64 (n : Int), .int .i64 x] 75 (0, 0)) := (hB3.block _ (by omega)).trans HT3.out
          have t0 : w3.cell? ⟨tb, 0, none⟩ = some (.int .i64 (n : Int)) := Go.Joins.cell_of_block hT3' 0
          have t1 : w3.cell? ⟨tb, 1, none⟩ = some (.int .i64 x) := Go.Joins.cell_of_block hT3' 1
          have v0 : w3.cell? ⟨ub, 0, none⟩ = some (.int .i64 (m : Int)) := Go.Joins.cell_of_block hU3 0
          have v1 : w3.cell? ⟨ub, 1, none⟩ = some (.int .i64 z) := Go.Joins.cell_of_block hU3 1
          have HUB := Lib.hid hub
          have HU3 := Lib.hid hU3
          have HT3' := Lib.hid hT3'
          have HB3' := Lib.hid hB3
          have HZ3 := Lib.hid hz3
          clear hdr hub hU3 hB3 hz3 hT3' k0 k1 m0 m1 HT3
          have hdpos : 1 ≤ d := by rw [HDD.out]; exact Nat.gcd_pos_of_pos_left _ (by have := HONE.out.pos (n, x) (by simp); simp only at this; omega)
          by_cases hd2 : 2 ≤ d
          · have hd3 : (1 : Int) < (d : Int) := by omega
            have a1 : (0 : Int) ≤ (j : Int) := Int.natCast_nonneg _
            have a2 : (j : Int) ≤ (capA : Int) := by omega
            obtain ⟨j1, hj1⟩ : ∃ j1, j1 = j + 1 := ⟨_, rfl⟩
            have a3 : (j : Int) + 1 = (j1 : Int) := by omega
            have a4 : IntKind.i64.wrap (j1 : Int) = (j1 : Int) := IntWalk.i64_in _ (by omega)
            have a5 : (j1 : Int) ≤ (A.length : Int) := by omega
            have a6 : (0 : Int) ≤ (j1 : Int) := Int.natCast_nonneg _
            have a7 : (A.length : Int) ≤ (capA : Int) := by omega
            have HJ1 := Lib.hid hj1
            clear hj1
            go_wp2
            go_still_tail 7, (by kernel_rfl)
            change wpList _ _ _ _ _ w3.drew
            have hA4 : RowT w3.drew w.heap.size (.slice (some ⟨gA, 0, none⟩) A.length capA) A := HA3.out.up HB3'.out.drew
            have hR4 : RowT w3.drew w.heap.size (.slice (some ⟨gR, 0, none⟩) R'.length capR) R' := ((HR1.out.up HB2.out).up HB3.out).up HB3'.out.drew
            have hT4 : w3.drew.heap[tb]? = some (.cells #[.int .i64 (n : Int), .int .i64 x] 75 (0, 0)) := HT3'.out
            have hU4 : w3.drew.heap[ub]? = some (.cells #[.int .i64 (m : Int), .int .i64 z] 75 (0, 0)) := HU3.out
            have hz4 : w3.drew.heap.size = ub + 1 := HZ3.out
            have hb4 : Below w.heap.size w w3.drew := by
              have h1 : Below w.heap.size w wr := (HB.out.trans (HB2.out.mono HB.out.size)).trans (HB3.out.mono (Nat.le_trans HB.out.size HB2.out.size))
              exact (h1.trans (HB3'.out.mono h1.size)).drew
            have hgAt : gA < tb := by rw [HTB.out]; exact (HA.out.lt gA rfl).2
            have hgRt : gR < tb := by rw [HTB.out]; exact hgR2
            have hwt : w.heap.size ≤ tb := by rw [HTB.out]; exact HB.out.size
            have hAform := hA4.form
            generalize w3.drew = w4 at *
            obtain ⟨_, _, e4, -, -, hf4⟩ := hAform
            cases e4
            have hcell4 : ∀ k y, A[k]? = some y → w4.cell? ⟨gA, k * 2, none⟩ = some (.int .i64 (y.1 : Int)) ∧ w4.cell? ⟨gA, k * 2 + 1, none⟩ = some (.int .i64 y.2) := by
              rcases hf4 with ⟨h, -⟩ | ⟨g4, e4, -, -, hc⟩
              · cases h
              · cases e4; exact hc
            have HC4 := Lib.hid hcell4
            have HA4 := Lib.hid hA4
            have HR4 := Lib.hid hR4
            have HT4 := Lib.hid hT4
            have HU4 := Lib.hid hU4
            have HZ4 := Lib.hid hz4
            have HB4 := Lib.hid hb4
            clear hcell4 hf4 hA4 hR4 hT4 hU4 hz4 hb4 t0 t1 v0 v1
            refine append_any rfl (.tmp 49) (.tmp 53) rfl (v := .slice (some ⟨gA, 0, none⟩) j capA) (l := A.take j) (r := A.drop j1) rfl (HA4.out.take j (by omega)) gA (if capA = j1 then 0 else j1 * 2) (capA - j1) ?_ ?_ ?_ (by have := HZ4.out; omega) ?_
            · show Value.slice (if capA = j1 then some ⟨gA, 0, none⟩ else some ⟨gA, j1 * 2, none⟩) (A.length - j1) _ = _
              rw [List.length_drop]
              congr 1
              split <;> rfl
            · intro k y hy
              rw [List.getElem?_drop] at hy
              have hk := (List.getElem?_eq_some_iff.1 hy).1
              rw [if_neg (by omega)]
              have h := HC4.out (j1 + k) y hy
              rw [Nat.add_mul] at h
              exact h
            · rw [List.length_take, List.length_drop]; omega
            intro v5 w5 hrow5 hgr5 hat5
            generalize (if capA = j1 then (some ⟨gA, 0, none⟩ : Option Addr) else some ⟨gA, j1 * 2, none⟩) = ad5
            have hsz5 := hgr5.size
            have hT5 : w5.heap[tb]? = some (.cells #[.int .i64 (n : Int), .int .i64 x] 75 (0, 0)) := (hgr5.block tb (by have := HZ4.out; omega) (by intro e; simp [Value.ownBlock] at e; omega)).trans HT4.out
            have hU5 : w5.heap[ub]? = some (.cells #[.int .i64 (m : Int), .int .i64 z] 75 (0, 0)) := (hgr5.block ub (by have := HZ4.out; omega) (by intro e; simp [Value.ownBlock] at e; omega)).trans HU4.out
            have hR5 : RowT w5 w.heap.size (.slice (some ⟨gR, 0, none⟩) R'.length capR) R' := HR4.out.grown hgr5 HNE2.out
            have hb5 : Below w.heap.size w w5 := HB4.out.grown hgr5 HB4.out.size (fun k hk => by simp [Value.ownBlock] at hk; omega)
            have hA12 : A = A.take j ++ (m, z) :: A.drop j1 := by
              have e1 : A.drop j = (m, z) :: A.drop j1 := by
                rw [HJ1.out, List.drop_eq_getElem_cons hjl]
                congr 1
                have h := HY.out
                rw [List.getElem?_eq_getElem hjl] at h
                exact Option.some.inj h
              rw [← e1, List.take_append_drop]
            have hspl := HONE.out
            rw [hA12] at hspl
            have hspl := hspl.split HDD.out hd2
            have hsx := hspl.1.exp (d, x + z) (by simp)
            simp only at hsx
            rw [← hA12] at hspl
            have HSPL := Lib.hid hspl
            have HA12 := Lib.hid hA12
            have HROW5 := Lib.hid hrow5
            have HAT5 := Lib.hid hat5
            have HR5 := Lib.hid hR5
            have HB5 := Lib.hid hb5
            have t0 : w5.cell? ⟨tb, 0, none⟩ = some (.int .i64 (n : Int)) := Go.Joins.cell_of_block hT5 0
            have t1 : w5.cell? ⟨tb, 1, none⟩ = some (.int .i64 x) := Go.Joins.cell_of_block hT5 1
            have v0 : w5.cell? ⟨ub, 0, none⟩ = some (.int .i64 (m : Int)) := Go.Joins.cell_of_block hU5 0
            have v1 : w5.cell? ⟨ub, 1, none⟩ = some (.int .i64 z) := Go.Joins.cell_of_block hU5 1
            obtain ⟨nd, hnd⟩ : ∃ nd, nd = n / d := ⟨_, rfl⟩
            obtain ⟨md, hmd⟩ : ∃ md, md = m / d := ⟨_, rfl⟩
            have hnd1 : (n : Int).tdiv (d : Int) = (nd : Int) := by rw [hnd]; exact (Int.ofNat_tdiv n d).symm
            have hmd1 : (m : Int).tdiv (d : Int) = (md : Int) := by rw [hmd]; exact (Int.ofNat_tdiv m d).symm
            have hnd2 : nd ≤ n := by rw [hnd]; exact Nat.div_le_self _ _
            have hmd2 : md ≤ m := by rw [hmd]; exact Nat.div_le_self _ _
            have hnd3 : IntKind.i64.wrap (nd : Int) = (nd : Int) := IntWalk.i64_in _ (by omega)
            have hmd3 : IntKind.i64.wrap (md : Int) = (md : Int) := IntWalk.i64_in _ (by omega)
            have hd0 : ((d : Int) == 0) = false := beq_false_of_ne (by omega)
            have hdN : ¬ d = 0 := by omega
            have hdI : ¬ (d : Int) = 0 := by omega
            obtain ⟨S, hS⟩ : ∃ S : Int, x + z = S := ⟨_, rfl⟩
            rw [hS] at hsx
            have hS1 : IntKind.i64.wrap S = S := IntWalk.i64_in _ (by omega)
            have HND := Lib.hid hnd
            have HMD := Lib.hid hmd
            have HSS := Lib.hid hS
            clear hspl hA12 hrow5 hat5 hR5 hb5 hT5 hU5 hnd hmd a1 a2 a3 a4 a5 a6 a7 hd3
            have htb5 : tb < w5.heap.size := by have := HZ4.out; omega
            have hub5 : ub < w5.heap.size := by have := HZ4.out; omega
            have hTg : gR ≠ tb := by omega
            have hUg : gR ≠ ub := by omega
            have kp : ∀ (o : Obj) (a : Addr), a.block < w5.heap.size → (w5.drew.alloc o).cell? a = w5.cell? a := fun o a ha => (((Below.refl _ w5).drew).alloc (Nat.le_refl _) o).cell ha
            have KP := Lib.hid kp
            have hrr : ∀ o : Obj, (w5.drew.alloc o).ownsRow w.heap.size 75 2 (.slice (some ⟨gR, 0, none⟩) r capR) r (encT R') := fun o => by
              have h : RowT (w5.drew.alloc o) w.heap.size (.slice (some ⟨gR, 0, none⟩) R'.length capR) R' := HR5.out.up (((Below.refl _ w5).drew).alloc (Nat.le_refl _) o)
              rw [HRL.out]
              exact h
            have HRR := Lib.hid hrr
            obtain ⟨i0, hi0, hz0, hz1, hz2⟩ := info_parts Tryd.infoT
            have hsw : w.heap.size ≤ w5.heap.size := by omega
            clear kp hrr
            go_wp2_with fail
            go_region_held3 (fun w' => w'.cell? ⟨tb, 0, none⟩ = some (.int .i64 (n : Int)) ∧ w'.cell? ⟨tb, 1, none⟩ = some (.int .i64 x) ∧ w'.cell? ⟨ub, 0, none⟩ = some (.int .i64 (m : Int)) ∧ w'.cell? ⟨ub, 1, none⟩ = some (.int .i64 z))
              (first
                | (refine ⟨?_, ?_, ?_, ?_⟩ <;> with_reducible assumption)
                | exact ⟨(KP.out _ _ htb5).trans t0, (KP.out _ _ htb5).trans t1, (KP.out _ _ hub5).trans v0, (KP.out _ _ hub5).trans v1⟩
                | exact ⟨p0, p1, p2, p3⟩
                | go_keep)
              ((refine step_append_lies _ (by rfl) _ _ _ (by rfl) w.heap.size 75 i0 _ 2 16 Tryd.underlying69 hi0 hz0 hz1 hz2 rfl (by omega) (.slice (some ⟨gR, 0, none⟩) r capR) r (encT R') (by rfl) (HRR.out _) ⟨w5.heap.size, 0, none⟩ 3 3 (encT [(nd, x), (md, z), (d, S)]) (by rfl) (by rfl) (World.news_of_block (cs := #[.int .i64 (nd : Int), .int .i64 x, .int .i64 (md : Int), .int .i64 z, .int .i64 (d : Int), .int .i64 S]) (t := 75) (fr := (0, 0)) (heap_alloc_new w5.drew _)) (one_encT _) (by omega) (by unfold maxLen; omega) (by omega) (by simp; omega) (w5.heap.size + 1) (by simp) ?_; intro g7 cap7 w7 hown7 hgr7 hat7 hg7; have p0 := (hgr7.cell_far ⟨tb, 0, none⟩ (by simp; omega) (by simp [Value.ownBlock]; omega)).trans ((KP.out _ _ htb5).trans t0); have p1 := (hgr7.cell_far ⟨tb, 1, none⟩ (by simp; omega) (by simp [Value.ownBlock]; omega)).trans ((KP.out _ _ htb5).trans t1); have p2 := (hgr7.cell_far ⟨ub, 0, none⟩ (by simp; omega) (by simp [Value.ownBlock]; omega)).trans ((KP.out _ _ hub5).trans v0); have p3 := (hgr7.cell_far ⟨ub, 1, none⟩ (by simp; omega) (by simp [Value.ownBlock]; omega)).trans ((KP.out _ _ hub5).trans v1)))
            go_wp2
            have hz4' := HZ4.out
            have hv5 : ∀ g6, gR = g6 → v5.ownBlock ≠ some g6 := by
              intro g6 e6 e7
              rcases HAT5.out with h | h
              · exact HNE2.out g6 (by rw [← e6]; rfl) (h.symm.trans e7)
              · rw [e7] at h
                have h := Option.some.inj h
                omega
            have hspl := HSPL.out
            rw [← HND.out, ← HMD.out, HSS.out] at hspl
            have hgd : d ≤ n := by rw [HDD.out]; exact Nat.gcd_le_left _ (by have := HONE.out.pos (n, x) (by simp); simp only at this; omega)
            have hr7 : RowT w7 w.heap.size (.slice (some ⟨g7, 0, none⟩) (R' ++ [(nd, x), (md, z), (d, S)]).length cap7) (R' ++ [(nd, x), (md, z), (d, S)]) := by
              unfold RowT
              rw [encT_append, List.length_append, ← HRL.out]
              exact hown7
            have hv7 : RowT w7 w.heap.size v5 (A.take j ++ A.drop j1) := (HROW5.out.up (((Below.refl _ w5).drew).alloc (Nat.le_refl _) _)).grown hgr7 (fun g6 e6 e7 => hv5 g6 (Option.some.inj e7) e6)
            refine Io_close hr7 hv7 hspl.1 (fun y hy => ?_) ?_ (((HB5.out.drew).alloc hsw _).grown hgr7 (by rw [World.size_alloc]; show w.heap.size ≤ w5.heap.size + 1; omega) (fun k hk => by simp [Value.ownBlock] at hk; omega)) hspl.2 HD1.out HD2.out (by rw [List.length_append, ← HRL.out]; rfl)
            · simp only [List.mem_append, List.mem_cons, List.not_mem_nil, or_false] at hy
              rcases hy with (h | rfl | rfl | rfl) | h | h
              · exact HSM.out y (by simp [h])
              · exact Nat.lt_of_le_of_lt hnd2 hn2
              · exact Nat.lt_of_le_of_lt hmd2 hm2
              · exact Nat.lt_of_le_of_lt hgd hn2
              · exact HSM.out y (by simp [List.mem_of_mem_take h])
              · exact HSM.out y (by simp [List.mem_of_mem_drop h])
            · intro g6 e6 e7
              have e6 : g7 = g6 := by simpa [Value.ownBlock] using e6
              rcases hat7 with h | h
              · have h : gR = g7 := by simpa [Value.ownBlock] using h
                exact hv5 g6 (h.trans e6) e7
              · have := (HROW5.out.lt g6 e7).2
                omega
          · obtain rfl : d = 1 := by omega
            go_wp2
            refine ⟨⟨j + 1, by omega, by go_num, rfl, rfl, ?_, HB3.out.trans (HB3'.out.mono HB3.out.size)⟩, by simp [intOf]; omega⟩
            intro y hy
            rw [List.take_add_one, HY.out, List.mem_append] at hy
            rcases hy with h | h
            · exact HCOP.out y h
            · simp at h
              subst h
              exact HDD.out.symm
        · obtain rfl : j = A.length := by omega
          have hcopA : ∀ y ∈ A, Nat.gcd n y.1 = 1 := fun y hy => HCOP.out y (by rw [List.take_length]; exact hy)
          have hn2' : 2 ≤ n := by have := HONE.out.pos (n, x) (by simp); simp only at this; omega
          have hmv := HONE.out.move hn2' hx0 hcopA
          have HMV := Lib.hid hmv
          have hA3 : RowT wr w.heap.size (.slice bA A.length capA) A := (HA.out.up HB2.out).up HB3.out
          have hR3 : RowT wr w.heap.size (.slice (some ⟨gR, 0, none⟩) R'.length capR) R' := (HR1.out.up HB2.out).up HB3.out
          have HR3 := Lib.hid hR3
          have HW : Below w.heap.size w wr := (HB.out.trans (HB2.out.mono HB.out.size)).trans (HB3.out.mono (Nat.le_trans HB.out.size HB2.out.size))
          have HWW := Lib.hid HW
          clear hmv hcopA hR3 HW
          go_wp2_with (at_builtin; refine append_terms rfl (.tmp 80) (.tmp 82) rfl (l := A) (r := [(n, x)]) (v := .slice bA A.length capA) rfl (hA3.up ((Below.refl _ _).alloc (Nat.le_refl _) _)) wr.heap.size 0 1 rfl (cells_one wr n x) (by simp) (by simp; omega) (by have := HWW.out.size; rw [World.size_alloc]; omega) ?_; intro g5 cap5 w5 hrow5 hgr5 hat5 hg5)
          obtain ⟨w4, hw4⟩ : ∃ w4, w4 = wr.alloc (Obj.cells #[Value.int IntKind.i64 ↑n, Value.int IntKind.i64 x] 75) := ⟨_, rfl⟩
          rw [← hw4] at hgr5 hat5
          have hb4 : Below wr.heap.size wr w4 := by rw [hw4]; exact (Below.refl _ _).alloc (Nat.le_refl _) _
          have hz4 : w4.heap.size = wr.heap.size + 1 := by rw [hw4]; simp
          have hsz0 := HB2.out.size
          have hsz1 := HB3.out.size
          refine Io_close ((HR3.out.up hb4).grown hgr5 HNE2.out) hrow5 HMV.out.1 (fun y hy => HSM.out y ?_) ?_ ((HWW.out.trans (hb4.mono HWW.out.size)).grown hgr5 (by have := HWW.out.size; omega) (fun k hk => (hA3.lt k hk).1)) HMV.out.2 HD1.out HD2.out HRL.out
          · simp only [List.mem_append] at hy ⊢
            rcases hy with h | h | h
            · exact .inl (.inl h)
            · exact .inr h
            · exact .inl (.inr h)
          · intro g6 e6 e7
            rcases hat5 with h | h
            · exact HNE2.out g6 e6 (h.trans e7)
            · simp [Value.ownBlock] at e6 e7
              omega
end Go.Proofs.YtkoghdgfllichaaDoor
