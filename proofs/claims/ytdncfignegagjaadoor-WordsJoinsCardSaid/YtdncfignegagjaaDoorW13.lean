import Derived.Test.YtdncfignegagjaaDoorW12
import Derived.Maps.AppendAt
namespace Go.Proofs.YtdncfignegagjaaDoor
open Go.RowKit Go.Shelf

attribute [local go_sem] Oper.semAt_some

theorem fields_in (n : Nat) (s : ByteArray) (w : World) :
    CallsIn Fence.wide n Tryd.prog 59 #[.string s] w fun e w' => e = .returned (.func (.func 79) #[] #[.pointer (some ⟨w.heap.size, 0, none⟩)]) ∧ w' = w.alloc (.cells #[.string s] 9) := by
  refine callsIn_of_wp Tryd.func59 rfl trivial ?_ rfl
  simp only [Tryd.ntmps59, List.size_toArray, List.length_cons, List.length_nil, Nat.reduceAdd, Nat.reduceSub, Array.replicate_succ, Array.replicate_zero, List.push_toArray, List.append_toArray, List.nil_append, List.cons_append]
  gi_wp2
  go_ret
  exact ⟨rfl, rfl⟩

def encF (x : Fld × Bool) : Array Value := #[fldV x.1, .bool x.2]
theorem fields_stops (n : Nat) (hn : 1 ≤ n) (Bn : Nat) (line : List UInt8) (hlen : line.length ≤ 1000000) (w0 : World) (hT0 : Tabs w0) (w : World) (hT : Tabs w) (hBn : Bn < w.heap.size) (hc : w.cell? ⟨Bn, 0, none⟩ = some (.string ⟨line.toArray⟩)) :
    SeqStopsK Fence.wide n Tryd.prog 79 #[.pointer (some ⟨Bn, 0, none⟩)] encF (Below w0.heap.size) (fun ys => ys = itemsW line) (fun pre => pre <+: itemsW line) (itemsW line).length w :=
  fun l J Jx W hW hJ hJx hY h0 => by
    -- the iterator's own steps leave all that lay
    have hJ' : ∀ pre A B, (J pre A ∧ W.heap.size ≤ A.heap.size) → Below A.heap.size A B → (J pre B ∧ W.heap.size ≤ B.heap.size) := fun pre A B h hb =>
      ⟨hJ pre A B none h.1 (grownBy_of_below hb) (fun r e => by cases e), Nat.le_trans h.2 hb.size⟩
    exact fields1_in n hn l Bn line hlen w0 hT0 J Jx (fun pre A B h hb => hJ pre A B none h (grownBy_of_below hb) (fun r e => by cases e)) hY W (hT.below hW) ((hW.cell (p := ⟨Bn, 0, none⟩) hBn).trans hc) h0

def flat (l : List Fld) : List Value := l.flatMap fun x => [.bool x.1, .string ⟨x.2.toArray⟩]
theorem flat_snoc (l : List Fld) (x : Fld) : flat (l ++ [x]) = flat l ++ [.bool x.1, .string ⟨x.2.toArray⟩] := by simp [flat]
theorem flat_len (l : List Fld) : (flat l).length = l.length * 2 := by
  induction l with
  | nil => rfl
  | cons x r ih =>
    have e : flat (x :: r) = [.bool x.1, .string ⟨x.2.toArray⟩] ++ flat r := rfl
    rw [e, List.length_append, ih]; simp; omega

def splitW (l : List UInt8) : List Fld × Int :=
  if 4096 < l.length then ([], 3) else if (itemsW l).any (fun x => !x.2) then ([], 6) else if 64 < (itemsW l).length then ([], 3) else ((itemsW l).map (·.1), 0)

theorem Tryd.infoF : (Tryd.prog.info? 53).map (fun i => (i.zero, i.size, i.bytes)) = some (some (.agg #[.bool false, .string ⟨#[]⟩]), 2, 24) := by kernel_rfl

/-- What a function that returns fields and an error number leaves. -/
def FldsPost (w : World) (x : List Fld × Int) (e : Ending) (w' : World) : Prop :=
  ∃ v, e = .returned (.tuple #[v, .int .i64 x.2]) ∧ w'.ownsRow w.heap.size 53 2 v x.1.length (flat x.1) ∧ Below w.heap.size w w'

theorem add_eq (g j : Nat) : (⟨g, 0, none⟩ : Addr).add j = ⟨g, j, none⟩ := by
  unfold Addr.add; by_cases h : j = 0 <;> simp [h]
theorem cell_two_new (w : World) (a b : Value) (t : TypeId) : ∀ j u, [a, b][j]? = some u → (w.alloc (.cells #[a, b] t)).cell? ((⟨w.heap.size, 0, none⟩ : Addr).add j) = some u := by
  intro j u h
  rw [add_eq]
  match j, h with
  | 0, h => simp at h; subst h; simp
  | 1, h => simp at h; subst h; simp

theorem itW_count : ∀ (n : Nat) (l : List UInt8), (itW n l).length ≤ l.length + 1
  | 0, l => by simp [itW]
  | n + 1, l => by
    unfold itW
    split
    · simp
    · split
      · rename_i h
        have h1 := itW_count n (cutW l).2.1
        have h2 := cutW_lt h
        simp only [List.length_cons]; omega
      · simp
theorem fields_count (l : List UInt8) : (itemsW l).length ≤ l.length + 1 := by
  unfold itemsW; split
  · simp
  · exact itW_count _ _

def SI (w : World) (pre : List (Fld × Bool)) (W : World) : Prop :=
  (∃ v, Boxed W (w.heap.size + 1 + 1) 43 v ∧ W.ownsRow w.heap.size 53 2 v pre.length (flat (pre.map (·.1))) ∧ True) ∧
  (Boxed W w.heap.size 43 (.slice none 0 0) ∧ Boxed W (w.heap.size + 1) 26 (.int .i64 0)) ∧ (∀ x ∈ pre, x.2 = true) ∧ Below w.heap.size w W
def SX (w : World) (c : Code) (pre : List (Fld × Bool)) (W : World) : Prop :=
  (c = .ret ∧ ∃ x ∈ pre, x.2 = false) ∧ (Boxed W w.heap.size 43 (.slice none 0 0) ∧ Boxed W (w.heap.size + 1) 26 (.int .i64 6)) ∧ Below w.heap.size w W
theorem SI_own (w : World) (B : Nat) (hB : w.heap.size ≤ B) : OwnFrom B (SI w) :=
  OwnFrom.and (Own.from (holdsRow_own w.heap.size (w.heap.size + 1 + 1) 43 53 2 (fun (pre : List (Fld × Bool)) => pre.length) (fun pre => flat (pre.map (·.1))) (fun _ _ => True)) _)
    (OwnFrom.and (OwnFrom.and (Own.from (boxed_own w.heap.size 43 (fun _ => .slice none 0 0)) _) (Own.from (boxed_own (w.heap.size + 1) 26 (fun _ => .int .i64 0)) _))
      (OwnFrom.and (ownFrom_pure _ (fun (pre : List (Fld × Bool)) => ∀ x ∈ pre, x.2 = true)) (ownFrom_below (Nat.le_refl _) hB)))
theorem SX_own (w : World) (c : Code) (B : Nat) (hB : w.heap.size ≤ B) : OwnFrom B (SX w c) :=
  OwnFrom.and (ownFrom_pure _ (fun (pre : List (Fld × Bool)) => c = .ret ∧ ∃ x ∈ pre, x.2 = false))
    (OwnFrom.and (OwnFrom.and (Own.from (boxed_own w.heap.size 43 (fun _ => .slice none 0 0)) _) (Own.from (boxed_own (w.heap.size + 1) 26 (fun _ => .int .i64 6)) _))
      (ownFrom_below (Nat.le_refl _) hB))
def AF (s : ByteArray) (w : World) (x : Fld × Bool) (Bx : Nat) : Act :=
  { tmps := #[.string s, undef, .pointer (some ⟨w.heap.size, 0, none⟩), .pointer (some ⟨w.heap.size + 1, 0, none⟩), .pointer (some ⟨w.heap.size + 1 + 1, 0, none⟩), .pointer (some ⟨Bx, 0, none⟩), .bool x.2, .string s, .int .i64 s.size, .bool false, .string s,
    .func (.func 79) #[] #[.pointer (some ⟨w.heap.size + 1 + 1 + 1, 0, none⟩)], .agg #[.bool x.1.1, .string ⟨x.1.2.toArray⟩], .bool x.2, undef, undef, undef, undef, undef, undef, undef, undef, undef, undef], defers := [] }
def AX (s : ByteArray) (w : World) (x : Fld × Bool) (a' : Act) (W : World) : Prop :=
  ∃ Bx, W.heap[Bx]? = some (.cells #[.bool x.1.1, .string ⟨x.1.2.toArray⟩] 53 (0, 0)) ∧ a' = AF s w x Bx
theorem AX_own (s : ByteArray) (w : World) (x : Fld × Bool) (a' : Act) (B : Nat) : OwnFrom B (fun (_ : Unit) W => AX s w x a' W) := by
  intro _ W W' row ⟨Bx, hB, e⟩ hg hr
  exact ⟨Bx, (grownBy_keeps_cells hg (fun r er => (hr r er).2) hB rfl).trans hB, e⟩

set_option maxRecDepth 100000 in
set_option maxHeartbeats 2000000 in
theorem split_in (n : Nat) (hn : 3 ≤ n) (s : ByteArray) (hs : s.size ≤ 4096) (w : World) (hT : Tabs w) :
    CallsIn Fence.wide n Tryd.prog 34 #[.string s] w (FldsPost w (splitW s.data.toList)) := by
  have h1 : 1 ≤ n := by omega
  obtain ⟨i0, hi, hz0, hz1, hz2⟩ := info_parts Tryd.infoF
  have hdec : decide ((4096 : Int) < (s.size : Int)) = false := by simp; omega
  have hnl : ¬ 4096 < s.data.toList.length := by rw [len_eq]; omega
  refine callsIn_of_wp_marks Tryd.func34 rfl trivial ?_ rfl
  simp only [Tryd.ntmps34, List.size_toArray, List.length_cons, List.length_nil, Nat.reduceAdd, Nat.reduceSub, Array.replicate_succ, Array.replicate_zero, List.push_toArray, List.append_toArray, List.nil_append, List.cons_append]
  gi_wp2_with (refine ⟨trivial, ?_⟩; gi_at_call 59; refine (fields_in (n - 1) _ _).mono ?_; rintro e w' ⟨rfl, rfl⟩)
  have hB0 : Below w.heap.size w ((((w.alloc (.cells #[.slice none 0 0] 43)).alloc (.cells #[.int .i64 0] 26)).alloc (.cells #[.slice none 0 0] 43)).alloc (.cells #[.string s] 9)) :=
    ((((Below.refl _ w).alloc (Nat.le_refl _) _).alloc (by simp) _).alloc (by simp; omega) _).alloc (by simp; omega) _
  have b0 : Boxed ((((w.alloc (.cells #[.slice none 0 0] 43)).alloc (.cells #[.int .i64 0] 26)).alloc (.cells #[.slice none 0 0] 43)).alloc (.cells #[.string s] 9)) w.heap.size 43 (.slice none 0 0) := (((Boxed.new w _ _).alloc _).alloc _).alloc _
  have b1 : Boxed ((((w.alloc (.cells #[.slice none 0 0] 43)).alloc (.cells #[.int .i64 0] 26)).alloc (.cells #[.slice none 0 0] 43)).alloc (.cells #[.string s] 9)) (w.heap.size + 1) 26 (.int .i64 0) := by
    have := Boxed.new (w.alloc (.cells #[.slice none 0 0] 43)) 26 (.int .i64 0)
    rw [World.size_alloc] at this
    exact (this.alloc _).alloc _
  have b2 : Boxed ((((w.alloc (.cells #[.slice none 0 0] 43)).alloc (.cells #[.int .i64 0] 26)).alloc (.cells #[.slice none 0 0] 43)).alloc (.cells #[.string s] 9)) (w.heap.size + 1 + 1) 43 (.slice none 0 0) := by
    have := Boxed.new ((w.alloc (.cells #[.slice none 0 0] 43)).alloc (.cells #[.int .i64 0] 26)) 43 (.slice none 0 0)
    rw [World.size_alloc, World.size_alloc] at this
    exact this.alloc _
  have b3 : ((((w.alloc (.cells #[.slice none 0 0] 43)).alloc (.cells #[.int .i64 0] 26)).alloc (.cells #[.slice none 0 0] 43)).alloc (.cells #[.string s] 9)).cell? ⟨w.heap.size + 1 + 1 + 1, 0, none⟩ = some (.string s) := by
    have := (Boxed.new (((w.alloc (.cells #[.slice none 0 0] 43)).alloc (.cells #[.int .i64 0] 26)).alloc (.cells #[.slice none 0 0] 43)) 9 (.string s)).cell
    rw [World.size_alloc, World.size_alloc, World.size_alloc] at this
    exact this
  have hsz : ((((w.alloc (.cells #[.slice none 0 0] 43)).alloc (.cells #[.int .i64 0] 26)).alloc (.cells #[.slice none 0 0] 43)).alloc (.cells #[.string s] 9)).heap.size = w.heap.size + 4 := by simp
  generalize ((((w.alloc (.cells #[.slice none 0 0] 43)).alloc (.cells #[.int .i64 0] 26)).alloc (.cells #[.slice none 0 0] 43)).alloc (.cells #[.string s] 9)) = W0 at *
  refine wpIn_rangeFunc_ownH rfl h1 (gf := 79) (lb := #[.pointer (some ⟨w.heap.size + 1 + 1 + 1, 0, none⟩)]) rfl trivial (enters_of Tryd.func79 (by kernel_rfl) rfl)
    (fields_stops (n - 1) (by omega) (w.heap.size + 1 + 1 + 1) s.data.toList (by rw [len_eq]; omega) w hT W0 (hT.below hB0) (by omega) b3) belowK_t (belowK_b (by omega)) (Below.refl _ _) (fun _ => rfl)
    (SI w) (SX w) (SI_own w _ (by omega)) (fun c => SX_own w c _ (by omega)) ⟨⟨_, b2, World.ownsRow_nil _ _ _ _, trivial⟩, ⟨b0, b1⟩, by simp, hB0⟩ (AX s w) (fun x a' => AX_own s w x a' _) ?assign ?body ?done ?stop
  case assign =>
    rintro l pre ⟨⟨fq, ft⟩, ok⟩ W K hi hK
    simp only [encF, fldV]
    gi_wp2
    have hlb := hi.2.2.2.size
    exact hK _ _ ((KeepsOthers.alloc _ _).from _) ((Below.refl _ W).alloc hlb _) ((SI_own w w.heap.size (Nat.le_refl _)).alloc _ hi) ⟨W.heap.size, World.alloc_heap_new W _, rfl⟩
  case body =>
    rintro l pre ⟨⟨fq, ft⟩, ok⟩ a' W hl ⟨r, hr⟩ ⟨⟨v, hv, hrow, -⟩, ⟨hv0, hv1⟩, hall, hB⟩ ⟨Bx, hBx, rfl⟩ hlt
    have hN := fields_count s.data.toList
    rw [len_eq] at hN
    have hN := Lib.hid hN
    simp only [AF]
    cases ok
    · have c0 := hv0.cell
      have f0 := hv0.frozen
      have c1 := hv1.cell
      have f1 := hv1.frozen
      gi_wp2
      exact ⟨((KeepsOthers.setCell _ _ _).trans (KeepsOthers.setCell _ _ _)).from _, ⟨rfl, _, List.mem_append_right _ (List.mem_singleton.2 rfl), rfl⟩, ⟨(hv0.set _).other (by omega) _, (hv1.other (by omega) _).set _⟩,
        (hB.setCell (p := ⟨w.heap.size, 0, none⟩) (Nat.le_refl _) _).setCell (p := ⟨w.heap.size + 1, 0, none⟩) (by simp) _⟩
    · have hc := hv.cell
      have e0 : W.cell? ⟨Bx, 0, none⟩ = some (.bool fq) := by rw [Go.Joins.cell_of_block hBx 0]; rfl
      have e1 : W.cell? ⟨Bx, 1, none⟩ = some (.string ⟨ft.toArray⟩) := by rw [Go.Joins.cell_of_block hBx 1]; rfl
      have hlb := hB.size
      have hpl : pre.length < 5000 := by have := hN.out; omega
      clear hN
      gi_wp2_with (gi_at_builtin; refine wpListIn_append_own _ rfl _ _ 43 rfl w.heap.size 53 i0 (.agg #[.bool false, .string ⟨#[]⟩]) 2 24 Tryd.underlying43 hi hz0 hz1 hz2 rfl (by decide) _ _ _ rfl (hrow.alloc _) ⟨W.heap.size, 0, none⟩ 1 1 [.bool fq, .string ⟨ft.toArray⟩] rfl rfl (cell_two_new _ _ _ _) (by simp [Value.oneCell']) (by unfold maxLen; omega) (by omega) (by simp; omega) ?_; intro v' w1 hown' hgrow _; obtain ⟨g', cap', rfl⟩ := ownsRow_succ hown'; obtain ⟨hw1, hw2, hr2, hk2, hb2⟩ := hv.appended (by decide) hrow hlb (by omega) hown' hgrow; have hc1 := hw1.cell; have hf1 := hw1.frozen; have hz0' := (((hv0.alloc _).kept hgrow (hv0.not_row (by decide) hrow)).other (B' := w.heap.size + 1 + 1) (by omega) (.slice (some ⟨g', 0, none⟩) (pre.length + 1) cap')); have hz1' := (((hv1.alloc _).kept hgrow (hv1.not_row (by decide) hrow)).other (B' := w.heap.size + 1 + 1) (by omega) (.slice (some ⟨g', 0, none⟩) (pre.length + 1) cap')))
      exact ⟨hk2.from _, hb2, ⟨_, hw2, by simpa [flat_snoc] using hr2, trivial⟩, ⟨hz0', hz1'⟩, by
        intro x hx
        rcases List.mem_append.1 hx with hx | hx
        · exact hall x hx
        · rw [List.mem_singleton.1 hx], hB.trans hb2⟩
  case done =>
    rintro D ys W hD rfl ⟨⟨v, hv, hrow, -⟩, ⟨hv0, hv1⟩, hall, hB⟩ hK
    have hc := hv.cell
    have g0 := hv0.cell
    have f0 := hv0.frozen
    have g1 := hv1.cell
    have f1 := hv1.frozen
    have hnb : (itemsW s.data.toList).any (fun x => !x.2) = false := by
      rw [List.any_eq_false]
      intro x hx
      simp [hall x hx]
    have hff : splitW s.data.toList = if 64 < (itemsW s.data.toList).length then ([], 3) else ((itemsW s.data.toList).map (·.1), 0) := by
      rw [splitW, if_neg hnl, if_neg (by rw [hnb]; simp)]
    have HF := Lib.hid hff
    have hml := fields_count s.data.toList
    clear hff hnb hall
    rw [len_eq] at hml
    generalize itemsW s.data.toList = its at *
    have hform : ∃ A cap, v = .slice A its.length cap := by
      rcases hrow.2 with ⟨rfl, h0⟩ | ⟨g, cap, cur, rfl, _⟩
      · exact ⟨none, 0, by rw [h0]⟩
      · exact ⟨_, cap, rfl⟩
    obtain ⟨A, cap, rfl⟩ := hform
    have fin : ∀ (x e : Value), ((W.setCell ⟨w.heap.size, 0, none⟩ x).setCell ⟨w.heap.size + 1, 0, none⟩ e).heap[D]? = some (.deferred (some [])) ∧
        (((W.setCell ⟨w.heap.size, 0, none⟩ x).setCell ⟨w.heap.size + 1, 0, none⟩ e).putObj D (.deferred none)).cell? ⟨w.heap.size, 0, none⟩ = some x ∧
        (((W.setCell ⟨w.heap.size, 0, none⟩ x).setCell ⟨w.heap.size + 1, 0, none⟩ e).putObj D (.deferred none)).cell? ⟨w.heap.size + 1, 0, none⟩ = some e ∧
        Below w.heap.size w (((W.setCell ⟨w.heap.size, 0, none⟩ x).setCell ⟨w.heap.size + 1, 0, none⟩ e).putObj D (.deferred none)) := by
      intro x e
      have hK' := ((KeepsOthers.setCell W ⟨w.heap.size, 0, none⟩ x).trans (KeepsOthers.setCell (W.setCell ⟨w.heap.size, 0, none⟩ x) ⟨w.heap.size + 1, 0, none⟩ e)).same D _ hK rfl
      have k0 := ((hv0.set x).other (B' := w.heap.size + 1) (by omega) e).cell
      have k1 := (((hv1.other (B' := w.heap.size) (by omega) x)).set e).cell
      have hb' := (hB.setCell (p := ⟨w.heap.size, 0, none⟩) (Nat.le_refl _) x).setCell (p := ⟨w.heap.size + 1, 0, none⟩) (by simp) e
      exact ⟨hK', cell_kept k0 (grownBy_putObj' _ D (.deferred none)) (fun r er => by cases er; exact ⟨_, hK', rfl⟩), cell_kept k1 (grownBy_putObj' _ D (.deferred none)) (fun r er => by cases er; exact ⟨_, hK', rfl⟩),
        hb'.trans (belowK_b (w := w) (Nat.le_refl _) _ D _ _ (by omega) hK' rfl rfl)⟩
    have hrowf : ∀ (x e : Value), (((W.setCell ⟨w.heap.size, 0, none⟩ x).setCell ⟨w.heap.size + 1, 0, none⟩ e).putObj D (.deferred none)).ownsRow w.heap.size 53 2 (.slice A its.length cap) its.length (flat (its.map (·.1))) := by
      intro x e
      have r1 := hrow.kept (grownBy_setCell' W w.heap.size x) (.inr (hv0.not_row (by decide) hrow).symm)
      have r2 := r1.kept (grownBy_setCell' _ (w.heap.size + 1) e) (.inr ((hv1.other (B' := w.heap.size) (by omega) x).not_row (by decide) r1).symm)
      exact ownsRow_putObj r2 _ (fin x e).1 rfl
    by_cases h64 : 64 < its.length
    · obtain ⟨k, k0, k1, kb⟩ := fin (.slice none 0 0) (.int .i64 3)
      have Hk := Lib.hid k
      have Hk0 := Lib.hid k0
      have Hk1 := Lib.hid k1
      clear k k0 k1
      gi_wp2
      refine ⟨by simp, .inl ⟨_, _, rfl, run_takeDeferred Hk.out, ?_⟩⟩
      refine ⟨.tuple #[.slice none 0 0, .int .i64 3], by have k0 := Hk0.out; have k1 := Hk1.out; simp [results, Tryd.results34, k0, k1, go_sem], ?_⟩
      rw [HF.out, if_pos h64]
      exact ⟨_, rfl, World.ownsRow_nil _ _ _ _, kb⟩
    · obtain ⟨k, k0, k1, kb⟩ := fin (.slice A its.length cap) (.int .i64 0)
      have Hk := Lib.hid k
      have Hk0 := Lib.hid k0
      have Hk1 := Lib.hid k1
      clear k k0 k1
      gi_wp2
      refine ⟨by simp, .inl ⟨_, _, rfl, run_takeDeferred Hk.out, ?_⟩⟩
      refine ⟨.tuple #[.slice A its.length cap, .int .i64 0], by have k0 := Hk0.out; have k1 := Hk1.out; simp [results, Tryd.results34, k0, k1, go_sem], ?_⟩
      rw [HF.out, if_neg h64]
      exact ⟨_, rfl, by simpa using hrowf (.slice A its.length cap) (.int .i64 0), kb⟩
  case stop =>
    rintro D c pre W hD hpre ⟨⟨rfl, hbad⟩, ⟨hv0, hv1⟩, hB⟩ hK
    gi_wp2
    refine ⟨by simp, .inl ⟨_, _, rfl, run_takeDeferred hK, ?_⟩⟩
    have c0 := cell_kept hv0.cell (grownBy_putObj' W D (.deferred none)) (fun r e => by cases e; exact ⟨_, hK, rfl⟩)
    have c1 := cell_kept hv1.cell (grownBy_putObj' W D (.deferred none)) (fun r e => by cases e; exact ⟨_, hK, rfl⟩)
    have hf : splitW s.data.toList = ([], 6) := by
      rw [splitW, if_neg hnl, if_pos]
      obtain ⟨x, hx, hx2⟩ := hbad
      rw [List.any_eq_true]
      exact ⟨x, hpre.subset hx, by simp [hx2]⟩
    refine ⟨.tuple #[.slice none 0 0, .int .i64 6], by simp [results, Tryd.results34, c0, c1, go_sem], ?_⟩
    rw [hf]
    exact ⟨_, rfl, World.ownsRow_nil _ _ _ _, hB.trans (belowK_b (w := w) (Nat.le_refl _) W D _ _ (by omega) hK rfl rfl)⟩

set_option maxHeartbeats 1000000 in
theorem split_long (s : ByteArray) (hs : 4096 < s.size) (hm : s.size ≤ maxLen) (w : World) :
    Calls Tryd.prog 34 #[.string s] w (FldsPost w (splitW s.data.toList)) := by
  unfold maxLen at hm
  have hf := Lib.hid (show splitW s.data.toList = ([], 3) by rw [splitW, if_pos (by rw [len_eq]; exact hs)])
  go_enter Tryd.func34, Tryd.ntmps34
  go_wp2_with fail
  refine bodyPost_ret (v := .tuple #[.slice none 0 0, .int .i64 3]) (by simp [results, Tryd.results34, go_sem]) rfl ?_
  rw [hf.out]
  exact ⟨_, rfl, World.ownsRow_nil _ _ _ _, ((Below.refl _ w).alloc (Nat.le_refl _) _).alloc (by simp) _⟩
theorem split_any (s : ByteArray) (hs : s.size ≤ maxLen) (w : World) (hT : Tabs w) :
    Calls Tryd.prog 34 #[.string s] w (FldsPost w (splitW s.data.toList)) := by
  by_cases h : 4096 < s.size
  · exact split_long s h hs w
  · exact (callsIn_wide (n := 3)).1 (split_in 3 (Nat.le_refl _) s (by omega) w hT)
end Go.Proofs.YtdncfignegagjaaDoor
