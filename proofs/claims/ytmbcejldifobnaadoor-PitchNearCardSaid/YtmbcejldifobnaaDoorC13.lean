import Derived.Test.YtmbcejldifobnaaDoorC12
import Derived.Test.YtmbcejldifobnaaDoorC04
import Derived.Test.YtmbcejldifobnaaDoorC11
import Derived.Test.YtmbcejldifobnaaDoorC09
namespace Go.Proofs.YtmbcejldifobnaaDoor.Pc
open Go.RowKit Tp Sp
/-- What of terms goes outward. -/
def absL (l : List (Nat × Int)) (d : Int) : List (Nat × Int) := if sgnP (scL 1 l ++ scL d (negL [(1, 1)])) < 0 then negL l else l
theorem absL_len (l : List (Nat × Int)) (d : Int) : (absL l d).length = l.length := by
  unfold absL; split
  · exact negL_len l
  · rfl
theorem absL_bd {l : List (Nat × Int)} {d : Int} (h : Bd 1000000000 l) : Bd 1000000000 (absL l d) := by
  unfold absL; split
  · exact h.neg
  · exact h
abbrev Rows := List (Nat × TypeId × List Value)
/-- A slice of terms that lives as long as the rows do. -/
def Live (w0 : World) (rows : Rows) (v : Value) (l : List (Nat × Int)) : Prop := ∀ u, Loc w0 rows u → TmC u u.heap.size v l
theorem Live.more {w0 : World} {rows rows' : Rows} {v : Value} {l : List (Nat × Int)} (h : Live w0 rows v l) (hs : rows.Sublist rows') : Live w0 rows' v l := fun u hu => h u (hu.forget hs)
theorem locGraft {w0 u w' : World} {rows : Rows} {r : Nat × TypeId × List Value} (hl : Loc w0 rows u) (h : Loc u [r] w') : Loc w0 (r :: rows) w' :=
  (hl.up h.bel).push (h.get (i := 0) rfl) (h.row r (List.mem_singleton.2 rfl)).1 hl.bel.size hl.lt
theorem outward_live {w0 u : World} (H rows : Rows) (A : Option Addr) (c : Nat) (l : List (Nat × Int)) (d : Int) (hl : Loc w0 (H ++ rows) u) (mo : Live w0 rows (.slice A l.length c) l) (hl1 : l.length ≤ 100) (hb1 : Bd 1000000000 l) (hd1 : 1 ≤ d) (hd1' : d ≤ 1000) (hvl : validL (scL 1 l ++ scL d (negL [(1, 1)]))) (hne : negL l ≠ []) :
    Calls Tryd.prog 124 #[.agg #[.slice A l.length c, .int .i64 d]] u fun r w' => ∃ v, r = .returned v ∧ (∃ A' c' rows', v = .agg #[.slice A' l.length c', .int .i64 d] ∧ rows.Sublist rows' ∧ Loc w0 (H ++ rows') w' ∧ Live w0 rows' (.slice A' l.length c') (absL l d)) ∧ Below u.heap.size u w' := by
  have hs : rows.Sublist (H ++ rows) := List.sublist_append_right _ _
  refine (outward_any A c l d u (mo u (hl.forget hs)) hl1 hb1 hb1.low hd1 hd1' hvl hne).mono ?_
  rintro e w' ⟨A', c', rfl, hcase, hb⟩
  refine ⟨_, rfl, ?_, hb⟩
  by_cases k : sgnP (scL 1 l ++ scL d (negL [(1, 1)])) < 0
  · rw [if_pos k] at hcase
    obtain ⟨g, cur, rfl, hc, ht, h⟩ := hcase
    refine ⟨_, c', (g, 84, cur) :: rows, rfl, List.Sublist.cons _ (List.Sublist.refl _), (locGraft hl h).perm List.perm_middle.symm, fun v hv => ?_⟩
    have := tmc_row (i := 0) hv rfl ht hc
    rw [negL_len] at this
    rw [show absL l d = negL l from if_pos k]
    exact this
  · rw [if_neg k] at hcase
    obtain ⟨rfl, rfl⟩ := hcase
    refine ⟨A', c', rows, rfl, List.Sublist.refl _, hl.up hb, ?_⟩
    rw [show absL l d = l from if_neg k]
    exact mo
theorem order_len (A1 : Option Addr) (c1 : Nat) (l1 : List (Nat × Int)) (k : Nat) (d1 : Int) (A2 : Option Addr) (c2 : Nat) (l2 : List (Nat × Int)) (d2 : Int) (w : World) (hk : l1.length = k) (m1 : TmC w w.heap.size (.slice A1 k c1) l1) (m2 : TmC w w.heap.size (.slice A2 l2.length c2) l2) (hl1 : l1.length ≤ 100) (hl2 : l2.length ≤ 100) (hb1 : Bd 1000000000 l1) (hb2 : Bd 1000000000 l2) (hd1 : 1 ≤ d1) (hd1' : d1 ≤ 1000) (hd2 : 1 ≤ d2) (hd2' : d2 ≤ 1000) (hvl : validL (scL d2 l1 ++ scL d1 (negL l2))) :
    Calls Tryd.prog 125 #[.agg #[.slice A1 k c1, .int .i64 d1], .agg #[.slice A2 l2.length c2, .int .i64 d2]] w fun r w' => r = .returned (.int .i64 (sgnP (scL d2 l1 ++ scL d1 (negL l2)))) ∧ Below w.heap.size w w' := by
  subst hk
  exact order_any A1 c1 l1 d1 A2 c2 l2 d2 w m1 m2 hl1 hl2 hb1 hb2 hd1 hd1' hd2 hd2' hvl
set_option maxRecDepth 100000 in
set_option maxHeartbeats 2000000 in
theorem keep_any (w0 w : World) (rows : Rows) (gl gn ga gu : Nat) (cu : List Value) (n n0 : Int) (A : Option Addr) (c : Nat) (l : List (Nat × Int)) (d : Int) (Al : Option Addr) (cl : Nat) (ll : List (Nat × Int)) (dl : Int) (Va Vb : Value) (HL0 : Loc w0 (((gl, 113, [.slice Al ll.length cl, .int .i64 dl]) :: (gn, 3, [.int .i64 n0]) :: (ga, 113, [Va, Vb]) :: (gu, 109, cu) :: rows)) w) (mo : Live w0 rows (.slice A l.length c) l) (hl1 : l.length ≤ 100) (hb1 : Bd 1000000000 l) (hd1 : 1 ≤ d) (hd1' : d ≤ 1000) (hvl : validL (scL 1 l ++ scL d (negL [(1, 1)]))) (hne : negL l ≠ []) (hlst : n ≠ 0 → Live w0 rows (.slice Al ll.length cl) ll ∧ ll.length ≤ 100 ∧ Bd 1000000000 ll ∧ 1 ≤ dl ∧ dl ≤ 1000 ∧ validL (scL dl (absL l d) ++ scL d (negL ll))) : Calls Tryd.prog 123 #[.int .i64 n, .agg #[.slice A l.length c, .int .i64 d], .pointer (some ⟨gl, 0, none⟩), .pointer (some ⟨gn, 0, none⟩), .pointer (some ⟨ga, 0, none⟩)] w fun r w' => r = .returned (.tuple #[]) ∧ ∃ rows2 A2 c2, rows.Sublist rows2 ∧ Live w0 rows2 (.slice A2 l.length c2) (absL l d) ∧ (if n = 0 ∨ sgnP (scL dl (absL l d) ++ scL d (negL ll)) < 0 then Loc w0 ((gl, 113, [.slice A2 l.length c2, .int .i64 d]) :: (gn, 3, [.int .i64 n]) :: (ga, 113, [.slice A l.length c, .int .i64 d]) :: (gu, 109, cu) :: rows2) w' else Loc w0 ((gl, 113, [.slice Al ll.length cl, .int .i64 dl]) :: (gn, 3, [.int .i64 n0]) :: (ga, 113, [Va, Vb]) :: (gu, 109, cu) :: rows2) w') := by
  refine calls_of_wp Tryd.func123 rfl ?_
  refine Boxw.out (ax_in ?_)
  have HB : Array.size ((#[.int .i64 n, .agg #[.slice A l.length c, .int .i64 d], .pointer (some ⟨gl, 0, none⟩), .pointer (some ⟨gn, 0, none⟩), .pointer (some ⟨ga, 0, none⟩)] : Array Value) ++ Array.replicate (Func.ntmps Tryd.f123 - Array.size (#[.int .i64 n, .agg #[.slice A l.length c, .int .i64 d], .pointer (some ⟨gl, 0, none⟩), .pointer (some ⟨gn, 0, none⟩), .pointer (some ⟨ga, 0, none⟩)] : Array Value)) undef) = 21 := by kernel_rfl
  refine aw_seq ?_
  refine aw_reg ?_
  refine ax_new 113 [.slice A l.length c, .int .i64 d] HB HL0 (by kernel_rfl) (by kernel_rfl) ?_
  intro g1 w2 HL3
  clear HL0
  refine aw_nil ?_
  refine aw_n_then ?_
  refine aw_seq ?_
  refine aw_reg ?_
  refine ax_mid 113 (.tmp 6) 0 g1 0 113 [.slice A l.length c, .int .i64 d] [.slice A l.length c, .int .i64 d] _ HB HL3 (by kernel_rfl) rfl (by kernel_rfl) rfl rfl Tryd.underlying113 rfl (by kernel_rfl) ?_
  refine ax_callx 124 #[.agg #[.slice A l.length c, .int .i64 d]] HB HL3 (by kernel_rfl) (by kernel_rfl) (outward_live (w0 := w0) (u := w2) [(g1, 113, [.slice A l.length c, .int .i64 d]), (gl, 113, [.slice Al ll.length cl, .int .i64 dl]), (gn, 3, [.int .i64 n0]), (ga, 113, [Va, Vb]), (gu, 109, cu)] rows A c l d HL3 mo hl1 hb1 hd1 hd1' hvl hne) ?_
  intro v6 w4 R7 hb8 HL5
  obtain ⟨A2, c2, rows2, rfl, hs2, HM, live2⟩ := R7
  replace HM : Loc w0 ((g1, 113, [.slice A l.length c, .int .i64 d]) :: (gl, 113, [.slice Al ll.length cl, .int .i64 dl]) :: (gn, 3, [.int .i64 n0]) :: (ga, 113, [Va, Vb]) :: (gu, 109, cu) :: rows2) w4 := HM
  clear HL3
  refine ax_new 113 [.slice none 0 0, .int .i64 0] HB HM (by kernel_rfl) (by kernel_rfl) ?_
  intro g9 w10 HL11
  clear HM
  refine ax_store 113 (.tmp 7) (.tmp 9) 0 g9 0 113 [.slice none 0 0, .int .i64 0] [.slice A2 l.length c2, .int .i64 d] [.slice A2 l.length c2, .int .i64 d] ((g9, 113, [.slice A2 l.length c2, .int .i64 d]) :: (g1, 113, [.slice A l.length c, .int .i64 d]) :: (gl, 113, [.slice Al ll.length cl, .int .i64 dl]) :: (gn, 3, [.int .i64 n0]) :: (ga, 113, [Va, Vb]) :: (gu, 109, cu) :: rows2) HB HL11 (by kernel_rfl) rfl (by kernel_rfl) (by kernel_rfl) rfl (by kernel_rfl) (by kernel_rfl) (Nat.le_of_ble_eq_true rfl) rfl rfl ?_
  intro w12 HL13
  clear HL11
  refine aw_nil ?_
  refine aw_n_then ?_
  refine aw_seq ?_
  refine aw_reg ?_
  refine ax_val (v := .int .i64 n) (.int .i64 n) HB (by kernel_rfl) (by kernel_rfl) (rfl) ?_
  refine ax_fork (n == 0) HB (by kernel_rfl) (by kernel_rfl) ?_ ?_
  · intro f14
    have k14 := eq_of_beq f14
    refine ax_val (v := .bool true) (.bool true) HB (by kernel_rfl) (by kernel_rfl) (rfl) ?_
    refine ax_pass  HB (by kernel_rfl) ?_
    refine ax_pass  HB (by kernel_rfl) ?_
    refine ax_pass  HB (by kernel_rfl) ?_
    refine ax_pass  HB (by kernel_rfl) ?_
    refine ax_val (v := .bool true) (.bool true) HB (by kernel_rfl) (by kernel_rfl) (rfl) ?_
    refine aw_nil ?_
    refine aw_n_then ?_
    refine ax_yes HB (by kernel_rfl) ?_
    refine ad_start ((g9, 113, [.slice A2 l.length c2, .int .i64 d]) :: (g1, 113, [.slice A l.length c, .int .i64 d]) :: (gu, 109, cu) :: rows2) HL13 (by kernel_rfl) (List.Sublist.cons_cons _ (List.Sublist.cons_cons _ (List.Sublist.cons _ (List.Sublist.cons _ (List.Sublist.cons _ (List.Sublist.cons_cons _ (List.Sublist.refl _))))))) rfl ?_
    intro w17 HL16
    clear HL13
    refine ay_val (v := .int .i64 n) 0 (.int .i64 n) HB rfl (by kernel_rfl) (by kernel_rfl) (by kernel_rfl) (fun _ _ _ h => h) (by kernel_rfl) (fun _ _ => by kernel_rfl) (rfl) ?_
    refine ay_mid 1 113 (.tmp 6) 1 g1 0 113 [.slice A l.length c, .int .i64 d] [.slice A l.length c, .int .i64 d] _ HB rfl (by kernel_rfl) (by kernel_rfl) (by kernel_rfl) (fun _ _ _ h => h) (by kernel_rfl) rfl (by kernel_rfl) rfl rfl Tryd.underlying113 rfl (by kernel_rfl) ?_
    refine ay_mid 2 113 (.tmp 7) 0 g9 0 113 [.slice A2 l.length c2, .int .i64 d] [.slice A2 l.length c2, .int .i64 d] _ HB rfl (by kernel_rfl) (by kernel_rfl) (by kernel_rfl) (fun _ _ _ h => h) (by kernel_rfl) rfl (by kernel_rfl) rfl rfl Tryd.underlying113 rfl (by kernel_rfl) ?_
    refine ad_one 3 HL16 (by kernel_rfl) (bs_store 3 (.tmp 3) (.tmp 18) 3 gn 0 3 [.int .i64 n0] [.int .i64 n] [.int .i64 n] ((g9, 113, [.slice A2 l.length c2, .int .i64 d]) :: (g1, 113, [.slice A l.length c, .int .i64 d]) :: (gl, 113, [.slice Al ll.length cl, .int .i64 dl]) :: (gn, 3, [.int .i64 n]) :: (ga, 113, [Va, Vb]) :: (gu, 109, cu) :: rows2) HB rfl (by kernel_rfl) rfl (by kernel_rfl) (by kernel_rfl) rfl (by kernel_rfl) (by kernel_rfl) (Nat.le_of_ble_eq_true rfl) rfl rfl (List.Sublist.cons_cons _ (List.Sublist.cons_cons _ (List.Sublist.cons _ (List.Sublist.cons _ (List.Sublist.cons _ (List.Sublist.cons_cons _ (List.Sublist.refl _))))))) ?_)
    intro w18 HL19
    clear HL16
    refine ad_one 4 HL19 (by kernel_rfl) (bs_store 113 (.tmp 4) (.tmp 19) 4 ga 0 113 [Va, Vb] [.slice A l.length c, .int .i64 d] [.slice A l.length c, .int .i64 d] ((g9, 113, [.slice A2 l.length c2, .int .i64 d]) :: (g1, 113, [.slice A l.length c, .int .i64 d]) :: (gl, 113, [.slice Al ll.length cl, .int .i64 dl]) :: (gn, 3, [.int .i64 n]) :: (ga, 113, [.slice A l.length c, .int .i64 d]) :: (gu, 109, cu) :: rows2) HB rfl (by kernel_rfl) rfl (by kernel_rfl) (by kernel_rfl) rfl (by kernel_rfl) (by kernel_rfl) (Nat.le_of_ble_eq_true rfl) rfl rfl (List.Sublist.cons_cons _ (List.Sublist.cons_cons _ (List.Sublist.cons _ (List.Sublist.cons _ (List.Sublist.cons _ (List.Sublist.cons_cons _ (List.Sublist.refl _))))))) ?_)
    intro w20 HL21
    clear HL19
    refine ad_one 5 HL21 (by kernel_rfl) (bs_store 113 (.tmp 2) (.tmp 20) 2 gl 0 113 [.slice Al ll.length cl, .int .i64 dl] [.slice A2 l.length c2, .int .i64 d] [.slice A2 l.length c2, .int .i64 d] ((g9, 113, [.slice A2 l.length c2, .int .i64 d]) :: (g1, 113, [.slice A l.length c, .int .i64 d]) :: (gl, 113, [.slice A2 l.length c2, .int .i64 d]) :: (gn, 3, [.int .i64 n]) :: (ga, 113, [.slice A l.length c, .int .i64 d]) :: (gu, 109, cu) :: rows2) HB rfl (by kernel_rfl) rfl (by kernel_rfl) (by kernel_rfl) rfl (by kernel_rfl) (by kernel_rfl) (Nat.le_of_ble_eq_true rfl) rfl rfl (List.Sublist.cons_cons _ (List.Sublist.cons_cons _ (List.Sublist.cons _ (List.Sublist.cons _ (List.Sublist.cons _ (List.Sublist.cons_cons _ (List.Sublist.refl _))))))) ?_)
    intro w22 HL23
    clear HL21
    refine ad_done HL23 (by kernel_rfl) (fun w25 HL24 => ?_)
    clear HL23
    refine aw_endn (.tuple #[]) (by kernel_rfl) (by kernel_rfl) ?_
    exact ⟨rfl, rows2, A2, c2, hs2, live2, by rw [if_pos (.inl k14)]; exact (HL24.forget (List.Sublist.cons _ (List.Sublist.cons _ (List.Sublist.cons_cons _ (List.Sublist.cons_cons _ (List.Sublist.cons_cons _ (List.Sublist.cons_cons _ (List.Sublist.refl _))))))))⟩
  · intro f15
    have k15 := ne_of_beq_false f15
    refine ax_val (v := .bool false) (.bool false) HB (by kernel_rfl) (by kernel_rfl) (rfl) ?_
    refine ax_mid 113 (.tmp 7) 0 g9 0 113 [.slice A2 l.length c2, .int .i64 d] [.slice A2 l.length c2, .int .i64 d] _ HB HL13 (by kernel_rfl) rfl (by kernel_rfl) rfl rfl Tryd.underlying113 rfl (by kernel_rfl) ?_
    refine ax_mid 113 (.tmp 2) 2 gl 0 113 [.slice Al ll.length cl, .int .i64 dl] [.slice Al ll.length cl, .int .i64 dl] _ HB HL13 (by kernel_rfl) rfl (by kernel_rfl) rfl rfl Tryd.underlying113 rfl (by kernel_rfl) ?_
    refine ax_call 125 #[.agg #[.slice A2 l.length c2, .int .i64 d], .agg #[.slice Al ll.length cl, .int .i64 dl]] (.int .i64 (sgnP (scL dl (absL l d) ++ scL d (negL ll)))) HB HL13 (by kernel_rfl) (by kernel_rfl) (order_len A2 c2 (absL l d) l.length d Al cl ll dl w12 (absL_len l d) (live2 w12 (HL13.forget (by repeat (first | exact List.Sublist.refl _ | refine List.Sublist.cons _ ?_)))) ((hlst k15).1 w12 (HL13.forget (hs2.trans (by repeat (first | exact List.Sublist.refl _ | refine List.Sublist.cons _ ?_))))) (by rw [absL_len]; exact hl1) (hlst k15).2.1 (absL_bd hb1) (hlst k15).2.2.1 hd1 hd1' (hlst k15).2.2.2.1 (hlst k15).2.2.2.2.1 (hlst k15).2.2.2.2.2) ?_
    intro w26 HL27
    clear HL13
    refine ax_fork (decide ((sgnP (scL dl (absL l d) ++ scL d (negL ll))) < 0)) HB (by kernel_rfl) (by kernel_rfl) ?_ ?_
    · intro f28
      have k28 := of_decide_eq_true f28
      refine ax_val (v := .bool true) (.bool true) HB (by kernel_rfl) (by kernel_rfl) (rfl) ?_
      refine aw_nil ?_
      refine aw_n_then ?_
      refine ax_yes HB (by kernel_rfl) ?_
      refine ad_start ((g9, 113, [.slice A2 l.length c2, .int .i64 d]) :: (g1, 113, [.slice A l.length c, .int .i64 d]) :: (gu, 109, cu) :: rows2) HL27 (by kernel_rfl) (List.Sublist.cons_cons _ (List.Sublist.cons_cons _ (List.Sublist.cons _ (List.Sublist.cons _ (List.Sublist.cons _ (List.Sublist.cons_cons _ (List.Sublist.refl _))))))) rfl ?_
      intro w31 HL30
      clear HL27
      refine ay_val (v := .int .i64 n) 0 (.int .i64 n) HB rfl (by kernel_rfl) (by kernel_rfl) (by kernel_rfl) (fun _ _ _ h => h) (by kernel_rfl) (fun _ _ => by kernel_rfl) (rfl) ?_
      refine ay_mid 1 113 (.tmp 6) 1 g1 0 113 [.slice A l.length c, .int .i64 d] [.slice A l.length c, .int .i64 d] _ HB rfl (by kernel_rfl) (by kernel_rfl) (by kernel_rfl) (fun _ _ _ h => h) (by kernel_rfl) rfl (by kernel_rfl) rfl rfl Tryd.underlying113 rfl (by kernel_rfl) ?_
      refine ay_mid 2 113 (.tmp 7) 0 g9 0 113 [.slice A2 l.length c2, .int .i64 d] [.slice A2 l.length c2, .int .i64 d] _ HB rfl (by kernel_rfl) (by kernel_rfl) (by kernel_rfl) (fun _ _ _ h => h) (by kernel_rfl) rfl (by kernel_rfl) rfl rfl Tryd.underlying113 rfl (by kernel_rfl) ?_
      refine ad_one 3 HL30 (by kernel_rfl) (bs_store 3 (.tmp 3) (.tmp 18) 3 gn 0 3 [.int .i64 n0] [.int .i64 n] [.int .i64 n] ((g9, 113, [.slice A2 l.length c2, .int .i64 d]) :: (g1, 113, [.slice A l.length c, .int .i64 d]) :: (gl, 113, [.slice Al ll.length cl, .int .i64 dl]) :: (gn, 3, [.int .i64 n]) :: (ga, 113, [Va, Vb]) :: (gu, 109, cu) :: rows2) HB rfl (by kernel_rfl) rfl (by kernel_rfl) (by kernel_rfl) rfl (by kernel_rfl) (by kernel_rfl) (Nat.le_of_ble_eq_true rfl) rfl rfl (List.Sublist.cons_cons _ (List.Sublist.cons_cons _ (List.Sublist.cons _ (List.Sublist.cons _ (List.Sublist.cons _ (List.Sublist.cons_cons _ (List.Sublist.refl _))))))) ?_)
      intro w32 HL33
      clear HL30
      refine ad_one 4 HL33 (by kernel_rfl) (bs_store 113 (.tmp 4) (.tmp 19) 4 ga 0 113 [Va, Vb] [.slice A l.length c, .int .i64 d] [.slice A l.length c, .int .i64 d] ((g9, 113, [.slice A2 l.length c2, .int .i64 d]) :: (g1, 113, [.slice A l.length c, .int .i64 d]) :: (gl, 113, [.slice Al ll.length cl, .int .i64 dl]) :: (gn, 3, [.int .i64 n]) :: (ga, 113, [.slice A l.length c, .int .i64 d]) :: (gu, 109, cu) :: rows2) HB rfl (by kernel_rfl) rfl (by kernel_rfl) (by kernel_rfl) rfl (by kernel_rfl) (by kernel_rfl) (Nat.le_of_ble_eq_true rfl) rfl rfl (List.Sublist.cons_cons _ (List.Sublist.cons_cons _ (List.Sublist.cons _ (List.Sublist.cons _ (List.Sublist.cons _ (List.Sublist.cons_cons _ (List.Sublist.refl _))))))) ?_)
      intro w34 HL35
      clear HL33
      refine ad_one 5 HL35 (by kernel_rfl) (bs_store 113 (.tmp 2) (.tmp 20) 2 gl 0 113 [.slice Al ll.length cl, .int .i64 dl] [.slice A2 l.length c2, .int .i64 d] [.slice A2 l.length c2, .int .i64 d] ((g9, 113, [.slice A2 l.length c2, .int .i64 d]) :: (g1, 113, [.slice A l.length c, .int .i64 d]) :: (gl, 113, [.slice A2 l.length c2, .int .i64 d]) :: (gn, 3, [.int .i64 n]) :: (ga, 113, [.slice A l.length c, .int .i64 d]) :: (gu, 109, cu) :: rows2) HB rfl (by kernel_rfl) rfl (by kernel_rfl) (by kernel_rfl) rfl (by kernel_rfl) (by kernel_rfl) (Nat.le_of_ble_eq_true rfl) rfl rfl (List.Sublist.cons_cons _ (List.Sublist.cons_cons _ (List.Sublist.cons _ (List.Sublist.cons _ (List.Sublist.cons _ (List.Sublist.cons_cons _ (List.Sublist.refl _))))))) ?_)
      intro w36 HL37
      clear HL35
      refine ad_done HL37 (by kernel_rfl) (fun w39 HL38 => ?_)
      clear HL37
      refine aw_endn (.tuple #[]) (by kernel_rfl) (by kernel_rfl) ?_
      exact ⟨rfl, rows2, A2, c2, hs2, live2, by rw [if_pos (.inr k28)]; exact (HL38.forget (List.Sublist.cons _ (List.Sublist.cons _ (List.Sublist.cons_cons _ (List.Sublist.cons_cons _ (List.Sublist.cons_cons _ (List.Sublist.cons_cons _ (List.Sublist.refl _))))))))⟩
    · intro f29
      have k29 := of_decide_eq_false f29
      refine ax_val (v := .bool false) (.bool false) HB (by kernel_rfl) (by kernel_rfl) (rfl) ?_
      refine aw_nil ?_
      refine aw_n_then ?_
      refine ax_no HB (by kernel_rfl) ?_
      refine aw_skip0 ?_
      refine aw_endn (.tuple #[]) (by kernel_rfl) (by kernel_rfl) ?_
      exact ⟨rfl, rows2, A2, c2, hs2, live2, by rw [if_neg (fun h => h.elim k15 k29)]; exact (HL27.forget (List.Sublist.cons _ (List.Sublist.cons _ (List.Sublist.cons_cons _ (List.Sublist.cons_cons _ (List.Sublist.cons_cons _ (List.Sublist.cons_cons _ (List.Sublist.refl _))))))))⟩

end Go.Proofs.YtmbcejldifobnaaDoor.Pc

namespace Go.Proofs.YtmbcejldifobnaaDoor
open Go.RowKit Tp Sp
section
variable {P : Program} {ops : Array Oper} {oi : Oper} {m : Nat} {a : Act} {b : Array Value} {ps : List (Nat × Value)} {w w0 : World} {Q : Exit → Act → World → Prop} {rows rowsR : List (Nat × TypeId × List Value)} {n i : Nat} {listed : Array Bool}
theorem as_val (v : Value) (hi : ops[i]? = some oi) (hw : Region.wanted oi (yielded ops a.tmps) = true) (he : ∀ u, Loc w0 rows u → (execOp a.eval oi).run P u = .ok (.value v) u) (hsub : rowsR.Sublist rows)
    (h : ∀ w', Loc w0 rows w' → Boxw (wpE P .any ops Q (Loc w0 rowsR) n (listed.setIfInBounds i true) (a.put oi.dst v) w')) : AdStep P ops Q w0 rows rowsR n listed a i := by
  intro u hl
  unfold wpOp
  simp only [hi, hw, if_true]
  left
  unfold Oper.wp
  rw [he u hl, Oper.upon_value]
  exact ⟨hl.forget hsub, (h u hl).out⟩
theorem as_callw {R : Value → World → Prop} (f : FuncId) (args : Array Value) (hi : ops[i]? = some oi) (hw : Region.wanted oi (yielded ops a.tmps) = true) (he : ∀ u, (execOp a.eval oi).run P u = .ok (.enter f args) u)
    (hc : ∀ u, Loc w0 rows u → Calls P f args u fun e w' => ∃ v, e = .returned v ∧ R v w' ∧ Loc w0 rowsR w')
    (h : ∀ v w', R v w' → Boxw (wpE P .any ops Q (Loc w0 rowsR) n (listed.setIfInBounds i true) (a.put oi.dst v) w')) : AdStep P ops Q w0 rows rowsR n listed a i := by
  intro u hl
  unfold wpOp
  simp only [hi, hw, if_true]
  left
  unfold Oper.wp
  rw [he, Oper.upon_enter]
  refine (hc u hl).mono ?_
  rintro e w' ⟨v, rfl, hR, hL⟩
  exact ⟨hL, (h v w' hR).out⟩
theorem bs_load (ty : TypeId) (x : Operand) (j g k : Nat) (t0 : TypeId) (cs : List Value) (v : Value) (d : TypeDesc) (hb : b.size = m) (hi : ops[i]? = some oi) (hw : Region.wanted oi (yieldA ops m b ps) = true) (ho : oi.op = .load ty x) (hx : evA m b ps x = .pointer (some ⟨g, k, none⟩))
    (hj : rows[j]? = some (g, t0, cs)) (hv : cs[k]? = some v) (hu : P.underlying ty = some d) (hd : d.isRow = false) (hsub : rowsR.Sublist rows)
    (h : ∀ w', Loc w0 rows w' → Boxw (wpE P .any ops Q (Loc w0 rowsR) n (listed.setIfInBounds i true) (acts b (putX ps oi.dst v)) w')) : AdStep P ops Q w0 rows rowsR n listed (acts b ps) i :=
  as_val v hi (by rw [acts_yield hb]; exact hw) (fun u hl => run_loadOp ho (by rw [acts_eval hb]; exact hx) (run_loadS hu hd ((hl.get hj).cell hv))) hsub (fun w' hl => by rw [acts_put]; exact h w' hl)
theorem bs_mid (ty : TypeId) (x : Operand) (j g k : Nat) (t0 : TypeId) (cs part : List Value) (d : TypeDesc) (hb : b.size = m) (hi : ops[i]? = some oi) (hw : Region.wanted oi (yieldA ops m b ps) = true) (ho : oi.op = .load ty x) (hx : evA m b ps x = .pointer (some ⟨g, k, none⟩))
    (hj : rows[j]? = some (g, t0, cs)) (hp : (cs.drop k).take part.length = part) (hu : P.underlying ty = some d) (hd : d.isRow = true) (hz : (P.info? ty).map (·.size) = some part.length) (hsub : rowsR.Sublist rows)
    (h : ∀ w', Loc w0 rows w' → Boxw (wpE P .any ops Q (Loc w0 rowsR) n (listed.setIfInBounds i true) (acts b (putX ps oi.dst (.agg part.toArray))) w')) : AdStep P ops Q w0 rows rowsR n listed (acts b ps) i :=
  as_val _ hi (by rw [acts_yield hb]; exact hw) (fun u hl => run_loadOp ho (by rw [acts_eval hb]; exact hx) (run_loadVar_mid u g k ty part d (row_range (hl.get hj) hp) hu hd hz)) hsub (fun w' hl => by rw [acts_put]; exact h w' hl)
theorem bs_callw {R : Value → World → Prop} (f : FuncId) (args : Array Value) (hb : b.size = m) (hi : ops[i]? = some oi) (hw : Region.wanted oi (yieldA ops m b ps) = true) (he : ∀ u, (execOp (evA m b ps) oi).run P u = .ok (.enter f args) u)
    (hc : ∀ u, Loc w0 rows u → Calls P f args u fun e w' => ∃ v, e = .returned v ∧ R v w' ∧ Loc w0 rowsR w')
    (h : ∀ v w', R v w' → Boxw (wpE P .any ops Q (Loc w0 rowsR) n (listed.setIfInBounds i true) (acts b (putX ps oi.dst v)) w')) : AdStep P ops Q w0 rows rowsR n listed (acts b ps) i :=
  as_callw f args hi (by rw [acts_yield hb]; exact hw) (fun u => by rw [acts_eval hb]; exact he u) hc (fun v w' h1 => by rw [acts_put]; exact h v w' h1)
theorem res_cc {fn : Func} {tmps : Array Value} {k k2 : Nat} {t t2 : TypeId} {A A2 : Addr} {v v2 : Value} (hf : fn.results = #[.cell k t, .cell k2 t2]) (ha : tmps.getD k undef = .pointer (some A)) (ha2 : tmps.getD k2 undef = .pointer (some A2)) (hl : (loadVar t A).run P w = .ok v w) (hl2 : (loadVar t2 A2).run P w = .ok v2 w) : (results fn tmps).run P w = .ok (.tuple #[v, v2]) w := by
  unfold results
  rw [hf]
  have h1 : tmps[k]?.getD undef = .pointer (some A) := by rw [← ha, Array.getD_eq_getD_getElem?]
  have h2 : tmps[k2]?.getD undef = .pointer (some A2) := by rw [← ha2, Array.getD_eq_getD_getElem?]
  simp [h1, h2, asAddr, Sem.run_bind, hl, hl2]
end
end Go.Proofs.YtmbcejldifobnaaDoor

namespace Go.Proofs.YtmbcejldifobnaaDoor.Pc
open Go.RowKit Tp Sp
/-- f over a frequency, whose terms are l. -/
def qL (f : Nat) (l : List (Nat × Int)) (d : Int) : List (Nat × Int) := scL d [(f, 1)] ++ scL 1 (negL l)
/-- Whether the first, outward, is nearer than the second. -/
def lsR (l : List (Nat × Int)) (d : Int) (m : List (Nat × Int)) (e : Int) : Prop := sgnP (scL e (absL l d) ++ scL d (negL (absL m e))) < 0
abbrev lsN (q : Nat → List (Nat × Int)) (dd : Nat → Int) (i j : Nat) : Prop := lsR (q i) (dd i) (q j) (dd j)
/-- Terms in a row. -/
def InR (rows : Rows) (A : Option Addr) (c : Nat) (l : List (Nat × Int)) : Prop := ∃ g cur, A = some ⟨g, 0, none⟩ ∧ (g, 84, cur) ∈ rows ∧ TmCur cur l ∧ l.length ≤ c
theorem InR.more {rows rows' : Rows} {A : Option Addr} {c : Nat} {l : List (Nat × Int)} (h : InR rows A c l) (hs : rows.Sublist rows') : InR rows' A c l := by
  obtain ⟨g, cur, e, hm, ht, hc⟩ := h
  exact ⟨g, cur, e, hs.subset hm, ht, hc⟩
theorem InR.live {w0 : World} {rows : Rows} {A : Option Addr} {c : Nat} {l : List (Nat × Int)} (h : InR rows A c l) : Live w0 rows (.slice A l.length c) l := fun u hu => by
  obtain ⟨g, cur, rfl, hm, ht, hc⟩ := h
  obtain ⟨i, hi⟩ := List.mem_iff_getElem?.1 hm
  exact tmc_row hu hi ht hc
/-- What is kept after i notes. -/
def NS (w0 : World) (rows : Rows) (q : Nat → List (Nat × Int)) (dd : Nat → Int) (i : Nat) (n0 : Int) (Va Vb : Value) (Al : Option Addr) (cl : Nat) (ll : List (Nat × Int)) (dl : Int) : Prop :=
  i ≠ 0 → ∃ N A c, N < i ∧ n0 = (N : Int) ∧ Va = .slice A (q N).length c ∧ Vb = .int .i64 (dd N) ∧ InR rows A c (q N) ∧ ll = absL (q N) (dd N) ∧ dl = dd N ∧ Live w0 rows (.slice Al ll.length cl) ll ∧ ∀ k, k < i → ¬ lsN q dd k N
structure QOk (q : Nat → List (Nat × Int)) (dd : Nat → Int) : Prop where
  len : ∀ n, n ≤ 139 → (q n).length ≤ 100
  bd : ∀ n, n ≤ 139 → Bd 1000000000 (q n)
  d1 : ∀ n, n ≤ 139 → 1 ≤ dd n
  d2 : ∀ n, n ≤ 139 → dd n ≤ 1000
  v1 : ∀ n, n ≤ 139 → validL (scL 1 (q n) ++ scL (dd n) (negL [(1, 1)]))
  v2 : ∀ n m, n ≤ 139 → m ≤ 139 → validL (scL (dd m) (absL (q n) (dd n)) ++ scL (dd n) (negL (absL (q m) (dd m))))
  ne : ∀ n, n ≤ 139 → negL (q n) ≠ []
  irr : ∀ n, n ≤ 139 → ¬ lsN q dd n n
  tr : ∀ i j k, i ≤ 139 → j ≤ 139 → k ≤ 139 → lsN q dd i j → ¬ lsN q dd k j → ¬ lsN q dd k i
theorem keep_step (w0 u : World) (X rows : Rows) (gl gn ga gu : Nat) (cu : List Value) (q : Nat → List (Nat × Int)) (dd : Nat → Int) (hq : QOk q dd) (i : Nat) (hi : i ≤ 139) (n0 : Int) (Aa : Option Addr) (na ca : Nat) (da : Int) (Al : Option Addr) (cl : Nat) (ll : List (Nat × Int)) (dl : Int) (hst : NS w0 rows q dd i n0 (.slice Aa na ca) (.int .i64 da) Al cl ll dl)
    (A : Option Addr) (c len : Nat) (d : Int) (hd : d = dd i) (hlen : len = (q i).length) (mo : InR (X ++ rows) A c (q i))
    (hl : Loc w0 (X ++ ([(gl, 113, [.slice Al ll.length cl, .int .i64 dl]), (gn, 3, [.int .i64 n0]), (ga, 113, [.slice Aa na ca, .int .i64 da])] ++ ((gu, 109, cu) :: rows))) u) :
    Calls Tryd.prog 123 #[.int .i64 (i : Int), .agg #[.slice A len c, .int .i64 d], .pointer (some ⟨gl, 0, none⟩), .pointer (some ⟨gn, 0, none⟩), .pointer (some ⟨ga, 0, none⟩)] u fun e w' => ∃ v, e = .returned v ∧ (v = .tuple #[] ∧ ∃ (n0' : Int) (Aa' : Option Addr) (na' ca' : Nat) (da' : Int) (Al' : Option Addr) (cl' : Nat) (ll' : List (Nat × Int)) (dl' : Int) (rows' : Rows), NS w0 rows' q dd (i + 1) n0' (.slice Aa' na' ca') (.int .i64 da') Al' cl' ll' dl' ∧
      Loc w0 ([(gl, 113, [.slice Al' ll'.length cl', .int .i64 dl']), (gn, 3, [.int .i64 n0']), (ga, 113, [.slice Aa' na' ca', .int .i64 da'])] ++ ((gu, 109, cu) :: rows')) w') ∧ Loc w0 (X ++ ((gu, 109, cu) :: rows)) w' := by
  subst hd hlen
  have hp : Loc w0 ((gl, 113, [.slice Al ll.length cl, .int .i64 dl]) :: (gn, 3, [.int .i64 n0]) :: (ga, 113, [.slice Aa na ca, .int .i64 da]) :: (gu, 109, cu) :: (X ++ rows)) u := by
    have h1 := hl.perm (List.perm_append_comm_assoc _ _ _)
    exact h1.perm (List.Perm.append_left _ List.perm_middle)
  have hsX : rows.Sublist (X ++ rows) := List.sublist_append_right _ _
  have fin : ∀ (rows2 : Rows) (x y z : Nat × TypeId × List Value) (w' : World), (X ++ rows).Sublist rows2 → Loc w0 (x :: y :: z :: (gu, 109, cu) :: rows2) w' → Loc w0 (X ++ ((gu, 109, cu) :: rows)) w' := fun rows2 x y z w' hs h =>
    (h.forget (((hs.cons_cons _).cons _).cons _ |>.cons _)).perm List.perm_middle.symm
  have hst2 : (i : Int) ≠ 0 → Live w0 (X ++ rows) (.slice Al ll.length cl) ll ∧ ll.length ≤ 100 ∧ Bd 1000000000 ll ∧ 1 ≤ dl ∧ dl ≤ 1000 ∧ validL (scL dl (absL (q i) (dd i)) ++ scL (dd i) (negL ll)) := fun h0 => by
    obtain ⟨N, A0, c0, hN, -, -, -, -, rfl, rfl, hlv, -⟩ := hst (by omega)
    exact ⟨hlv.more hsX, by rw [absL_len]; exact hq.len N (by omega), absL_bd (hq.bd N (by omega)), hq.d1 N (by omega), hq.d2 N (by omega), hq.v2 i N hi (by omega)⟩
  refine (keep_any w0 u (X ++ rows) gl gn ga gu cu (i : Int) n0 A c (q i) (dd i) Al cl ll dl (.slice Aa na ca) (.int .i64 da) hp mo.live (hq.len i hi) (hq.bd i hi) (hq.d1 i hi) (hq.d2 i hi) (hq.v1 i hi) (hq.ne i hi) hst2).mono ?_
  rintro e w' ⟨rfl, rows2, A2, c2, hs, hlive, hcase⟩
  by_cases hk : (i : Int) = 0 ∨ sgnP (scL dl (absL (q i) (dd i)) ++ scL (dd i) (negL ll)) < 0
  · rw [if_pos hk] at hcase
    refine ⟨_, rfl, ⟨rfl, (i : Int), A, (q i).length, c, dd i, A2, c2, absL (q i) (dd i), dd i, rows2, fun _ => ⟨i, A, c, by omega, rfl, rfl, rfl, mo.more hs, rfl, rfl, by rw [absL_len]; exact hlive, fun k hki => ?_⟩, by rw [absL_len]; exact hcase⟩, fin _ _ _ _ _ hs hcase⟩
    by_cases hki2 : k = i
    · subst hki2; exact hq.irr k hi
    · have h0 : i ≠ 0 := by omega
      obtain ⟨N, A0, c0, hN, -, -, -, -, rfl, rfl, hlv, hmin⟩ := hst h0
      have hless : lsN q dd i N := hk.resolve_left (by omega)
      exact hq.tr i N k hi (by omega) (by omega) hless (hmin k (by omega))
  · rw [if_neg hk] at hcase
    have h0 : i ≠ 0 := fun h => hk (.inl (by omega))
    refine ⟨_, rfl, ⟨rfl, n0, Aa, na, ca, da, Al, cl, ll, dl, rows2, fun _ => ?_, hcase⟩, fin _ _ _ _ _ hs hcase⟩
    obtain ⟨N, A0, c0, hN, e1, e2, e3, l1, rfl, rfl, hlv, hmin⟩ := hst h0
    refine ⟨N, A0, c0, by omega, e1, e2, e3, l1.more (hsX.trans hs), rfl, rfl, hlv.more (hsX.trans hs), fun k hki => ?_⟩
    by_cases hki2 : k = i
    · subst hki2; exact fun h => hk (.inr h)
    · exact hmin k (by omega)
theorem qL_ne (f : Nat) (l : List (Nat × Int)) (d : Int) : qL f l d ≠ [] := by unfold qL scL; simp
theorem bd_one (f : Nat) : Bd 1000000000 [((f : Nat), (1 : Int))] := fun x hx => by rw [List.mem_singleton] at hx; subst hx; exact ⟨by show (-1000000000 : Int) ≤ 1; omega, by show (1 : Int) ≤ 1000000000; omega⟩
set_option maxRecDepth 100000 in
set_option maxHeartbeats 2000000 in
theorem nearest_any (a t0 t : Int) (g f : Nat) (L : Nat → List (Nat × Int)) (dd : Nat → Int) (w : World) (hq : QOk (fun n => qL f (L n) (dd n)) dd) (hLne : ∀ n, n ≤ 139 → L n ≠ []) (hLl : ∀ n, n ≤ 139 → (L n).length ≤ 100) (hLb : ∀ n, n ≤ 139 → Bd 1000000000 (L n)) (hf : ∀ (n : Nat) (W : World), n ≤ 139 → Below w.heap.size w W → Calls Tryd.prog 67 #[.agg #[.int .i64 a, .int .i64 t0, .int .i64 t, .slice (some ⟨g, 0, none⟩) 12 12], .int .i64 (n : Int)] W fun e w' => (∃ V, e = .returned V ∧ RootV w' W.heap.size V (L n) (dd n)) ∧ Below W.heap.size W w') : Calls Tryd.prog 69 #[.agg #[.int .i64 a, .int .i64 t0, .int .i64 t, .slice (some ⟨g, 0, none⟩) 12 12], .int .i64 (f : Int)] w fun r w' => ∃ (N gz : Nat) (curz : List Value) (c : Nat), N ≤ 139 ∧ r = .returned (.tuple #[.int .i64 (N : Int), .agg #[.slice (some ⟨gz, 0, none⟩) (qL f (L N) (dd N)).length c, .int .i64 (dd N)]]) ∧ TmCur curz (qL f (L N) (dd N)) ∧ (qL f (L N) (dd N)).length ≤ c ∧ Loc w [(gz, 84, curz)] w' ∧ (∀ k, k ≤ 139 → ¬ lsN (fun n => qL f (L n) (dd n)) dd k N) ∧ Below w.heap.size w w' := by
  refine calls_of_wp Tryd.func69 rfl ?_
  refine Boxw.out (ax_in ?_)
  have HB : Array.size ((#[.agg #[.int .i64 a, .int .i64 t0, .int .i64 t, .slice (some ⟨g, 0, none⟩) 12 12], .int .i64 (f : Int)] : Array Value) ++ Array.replicate (Func.ntmps Tryd.f69 - Array.size (#[.agg #[.int .i64 a, .int .i64 t0, .int .i64 t, .slice (some ⟨g, 0, none⟩) 12 12], .int .i64 (f : Int)] : Array Value)) undef) = 25 := by kernel_rfl
  have HL0 := Loc.start w
  refine aw_seq ?_
  refine aw_reg ?_
  refine ax_new 109 [.int .i64 a, .int .i64 t0, .int .i64 t, .slice (some ⟨g, 0, none⟩) 12 12] HB HL0 (by kernel_rfl) (by kernel_rfl) ?_
  intro g1 w2 HL3
  clear HL0
  refine ax_new 3 [.int .i64 0] HB HL3 (by kernel_rfl) (by kernel_rfl) ?_
  intro g4 w5 HL6
  clear HL3
  refine ax_new 113 [.slice none 0 0, .int .i64 0] HB HL6 (by kernel_rfl) (by kernel_rfl) ?_
  intro g7 w8 HL9
  clear HL6
  refine aw_nil ?_
  refine aw_n_then ?_
  refine aw_seq ?_
  refine aw_reg ?_
  refine ax_new 113 [.slice none 0 0, .int .i64 0] HB HL9 (by kernel_rfl) (by kernel_rfl) ?_
  intro g10 w11 HL12
  clear HL9
  refine aw_nil ?_
  refine aw_n_then ?_
  refine aw_seq ?_
  refine aw_reg ?_
  refine ax_val (v := .func (.func 123) #[] #[.pointer (some ⟨g10, 0, none⟩), .pointer (some ⟨g4, 0, none⟩), .pointer (some ⟨g7, 0, none⟩)]) (.func (.func 123) #[] #[.pointer (some ⟨g10, 0, none⟩), .pointer (some ⟨g4, 0, none⟩), .pointer (some ⟨g7, 0, none⟩)]) HB (by kernel_rfl) (by kernel_rfl) (rfl) ?_
  refine ax_val (v := .func (.func 123) #[] #[.pointer (some ⟨g10, 0, none⟩), .pointer (some ⟨g4, 0, none⟩), .pointer (some ⟨g7, 0, none⟩)]) (.func (.func 123) #[] #[.pointer (some ⟨g10, 0, none⟩), .pointer (some ⟨g4, 0, none⟩), .pointer (some ⟨g7, 0, none⟩)]) HB (by kernel_rfl) (by kernel_rfl) (rfl) ?_
  refine aw_nil ?_
  refine aw_n_then ?_
  refine aw_seq ?_
  refine aw_seq ?_
  refine aw_reg ?_
  refine ax_val (v := .int .i64 0) (.int .i64 0) HB (by kernel_rfl) (by kernel_rfl) (rfl) ?_
  refine aw_nil ?_
  refine aw_n_then ?_
  refine aw_block ?_
  refine aw_loop (fun (nX : Nat) (bX : Act) (uX : World) => ∃ (i : Nat) (n0 : Int) (Aa : Option Addr) (na : Nat) (ca : Nat) (da : Int) (Al : Option Addr) (cl : Nat) (ll : List (Nat × Int)) (dl : Int) (rowsL : Rows) (j8_13 : Value) (j11_14 : Value) (j12_15 : Value) (j13_16 : Value) (j14_17 : Value) (j15_18 : Value) (j16_19 : Value) (j17_20 : Value) (j18_21 : Value) (j19_22 : Value) (j20_23 : Value) (j21_24 : Value) (j22_25 : Value), nX = 140 - i ∧ bX = ⟨#[.agg #[.int .i64 a, .int .i64 t0, .int .i64 t, .slice (some ⟨g, 0, none⟩) 12 12], .int .i64 (f : Int), .pointer (some ⟨g1, 0, none⟩), undef, .pointer (some ⟨g4, 0, none⟩), .pointer (some ⟨g7, 0, none⟩), .pointer (some ⟨g10, 0, none⟩), .func (.func 123) #[] #[.pointer (some ⟨g10, 0, none⟩), .pointer (some ⟨g4, 0, none⟩), .pointer (some ⟨g7, 0, none⟩)], j8_13, .func (.func 123) #[] #[.pointer (some ⟨g10, 0, none⟩), .pointer (some ⟨g4, 0, none⟩), .pointer (some ⟨g7, 0, none⟩)], .int .i64 (i : Int), j11_14, j12_15, j13_16, j14_17, j15_18, j16_19, j17_20, j18_21, j19_22, j20_23, j21_24, j22_25, undef, undef], []⟩ ∧ Loc w ((g10, 113, [.slice Al ll.length cl, .int .i64 dl]) :: (g4, 3, [.int .i64 n0]) :: (g7, 113, [.slice Aa na ca, .int .i64 da]) :: (g1, 109, [.int .i64 a, .int .i64 t0, .int .i64 t, .slice (some ⟨g, 0, none⟩) 12 12]) :: rowsL) uX ∧ (i ≤ 140) ∧ (NS w rowsL (fun n => qL f (L n) (dd n)) dd i n0 (.slice Aa na ca) (.int .i64 da) Al cl ll dl)) _ ⟨(0), (0), (none), (0), (0), (0), (none), (0), ([]), (0), ([]), (undef), (undef), (undef), (undef), (undef), (undef), (undef), (undef), (undef), (undef), (undef), (undef), (undef), rfl, (by kernel_rfl), (HL12.perm (List.Perm.cons _ ((List.Perm.swap _ _ _).trans (List.Perm.refl _)))), (by omega), (by exact fun h => absurd rfl h)⟩ ?_
  rintro _ _ w27 ⟨i, n0, Aa, na, ca, da, Al, cl, ll, dl, rowsL, j8_13, j11_14, j12_15, j13_16, j14_17, j15_18, j16_19, j17_20, j18_21, j19_22, j20_23, j21_24, j22_25, rfl, rfl, HL26, hi40, hst⟩
  clear HL12
  clear HB
  have HB : Array.size (#[.agg #[.int .i64 a, .int .i64 t0, .int .i64 t, .slice (some ⟨g, 0, none⟩) 12 12], .int .i64 (f : Int), .pointer (some ⟨g1, 0, none⟩), undef, .pointer (some ⟨g4, 0, none⟩), .pointer (some ⟨g7, 0, none⟩), .pointer (some ⟨g10, 0, none⟩), .func (.func 123) #[] #[.pointer (some ⟨g10, 0, none⟩), .pointer (some ⟨g4, 0, none⟩), .pointer (some ⟨g7, 0, none⟩)], j8_13, .func (.func 123) #[] #[.pointer (some ⟨g10, 0, none⟩), .pointer (some ⟨g4, 0, none⟩), .pointer (some ⟨g7, 0, none⟩)], .int .i64 (i : Int), j11_14, j12_15, j13_16, j14_17, j15_18, j16_19, j17_20, j18_21, j19_22, j20_23, j21_24, j22_25, undef, undef] : Array Value) = 25 := by kernel_rfl
  refine ax_in ?_
  refine aw_seq ?_
  refine aw_reg ?_
  refine ax_fork (decide ((i : Int) < 140)) HB (by kernel_rfl) (by kernel_rfl) ?_ ?_
  · intro f29
    have k29 := of_decide_eq_true f29
    refine aw_nil ?_
    refine aw_n_then ?_
    refine aw_seq ?_
    refine ax_yes HB (by kernel_rfl) ?_
    refine aw_skip0 ?_
    refine aw_n_then ?_
    refine aw_seq ?_
    refine aw_block ?_
    refine aw_seq ?_
    refine aw_reg ?_
    refine ax_val (v := .int .i64 (i : Int)) (.int .i64 (i : Int)) HB (by kernel_rfl) (by kernel_rfl) (rfl) ?_
    refine ax_val (v := .int .i64 (i : Int)) (.int .i64 (i : Int)) HB (by kernel_rfl) (by kernel_rfl) (rfl) ?_
    refine aw_nil ?_
    refine aw_n_then ?_
    refine ad_start ((g1, 109, [.int .i64 a, .int .i64 t0, .int .i64 t, .slice (some ⟨g, 0, none⟩) 12 12]) :: rowsL) HL26 (by kernel_rfl) (List.Sublist.cons _ (List.Sublist.cons _ (List.Sublist.cons _ (List.Sublist.cons_cons _ (List.Sublist.refl _))))) rfl ?_
    intro w32 HL31
    clear HL26
    refine ay_val (v := .func (.func 123) #[] #[.pointer (some ⟨g10, 0, none⟩), .pointer (some ⟨g4, 0, none⟩), .pointer (some ⟨g7, 0, none⟩)]) 0 (.func (.func 123) #[] #[.pointer (some ⟨g10, 0, none⟩), .pointer (some ⟨g4, 0, none⟩), .pointer (some ⟨g7, 0, none⟩)]) HB rfl (by kernel_rfl) (by kernel_rfl) (by kernel_rfl) (fun _ _ _ h => h) (by kernel_rfl) (fun _ _ => by kernel_rfl) (rfl) ?_
    refine ay_val (v := .int .i64 (i : Int)) 1 (.int .i64 (i : Int)) HB rfl (by kernel_rfl) (by kernel_rfl) (by kernel_rfl) (fun _ _ _ h => h) (by kernel_rfl) (fun _ _ => by kernel_rfl) (rfl) ?_
    refine ay_val (v := .int .i64 (f : Int)) 2 (.int .i64 (f : Int)) HB rfl (by kernel_rfl) (by kernel_rfl) (by kernel_rfl) (fun _ _ _ h => h) (by kernel_rfl) (fun _ _ => by kernel_rfl) (rfl) ?_
    refine ay_mid 4 109 (.tmp 2) 0 g1 0 109 [.int .i64 a, .int .i64 t0, .int .i64 t, .slice (some ⟨g, 0, none⟩) 12 12] [.int .i64 a, .int .i64 t0, .int .i64 t, .slice (some ⟨g, 0, none⟩) 12 12] _ HB rfl (by kernel_rfl) (by kernel_rfl) (by kernel_rfl) (fun _ _ _ h => h) (by kernel_rfl) rfl (by kernel_rfl) rfl rfl Tryd.underlying109 rfl (by kernel_rfl) ?_
    refine ay_val (v := .int .i64 (i : Int)) 5 (.int .i64 (i : Int)) HB rfl (by kernel_rfl) (by kernel_rfl) (by kernel_rfl) (fun _ _ _ h => h) (by kernel_rfl) (fun _ _ => by kernel_rfl) (rfl) ?_
    refine ad_one 3 HL31 (by kernel_rfl) (bs_callx 127 #[.int .i64 (f : Int)] HB rfl (by kernel_rfl) (fun _ => by kernel_rfl) (List.Sublist.cons _ (List.Sublist.cons _ (List.Sublist.cons _ (List.Sublist.cons_cons _ (List.Sublist.refl _))))) (fun u hu => callx_of (whole_any f u)) ?_)
    intro u38 v35 w33 hu39 R36 hb37 HL34
    obtain ⟨vv40, rfl, hrow40⟩ := R36
    obtain ⟨g40, cp40, cu40, rfl, hc40, ht40, HL40⟩ := rowT_push HL34 hu39 hrow40 (by simp)
    clear HL31
    refine ad_more (rowsR' := ((g40, 84, cu40) :: (g1, 109, [.int .i64 a, .int .i64 t0, .int .i64 t, .slice (some ⟨g, 0, none⟩) 12 12]) :: rowsL)) (HL40.forget (List.Sublist.cons_cons _ (List.Sublist.cons _ (List.Sublist.cons _ (List.Sublist.cons _ (List.Sublist.cons_cons _ (List.Sublist.refl _))))))) (List.Sublist.cons _ (List.Sublist.cons_cons _ (List.Sublist.refl _))) ?_
    refine ad_one 6 HL40 (by kernel_rfl) (bs_callx 67 #[.agg #[.int .i64 a, .int .i64 t0, .int .i64 t, .slice (some ⟨g, 0, none⟩) 12 12], .int .i64 (i : Int)] HB rfl (by kernel_rfl) (fun _ => by kernel_rfl) (List.Sublist.cons_cons _ (List.Sublist.cons _ (List.Sublist.cons _ (List.Sublist.cons _ (List.Sublist.cons_cons _ (List.Sublist.refl _)))))) (fun u hu => callx_of (hf i u (by omega) hu.bel)) ?_)
    intro u46 v43 w41 hu47 R44 hb45 HL42
    obtain ⟨vv48, rfl, hrow48⟩ := R44
    obtain ⟨g48, cp48, cu48, rfl, hc48, ht48, HL48⟩ := rowT_push HL42 hu47 hrow48 (hLne i (by omega))
    clear HL40
    refine ad_more (rowsR' := ((g48, 84, cu48) :: (g40, 84, cu40) :: (g1, 109, [.int .i64 a, .int .i64 t0, .int .i64 t, .slice (some ⟨g, 0, none⟩) 12 12]) :: rowsL)) (HL48.forget (List.Sublist.cons_cons _ (List.Sublist.cons_cons _ (List.Sublist.cons _ (List.Sublist.cons _ (List.Sublist.cons _ (List.Sublist.cons_cons _ (List.Sublist.refl _)))))))) (List.Sublist.cons _ (List.Sublist.cons_cons _ (List.Sublist.cons_cons _ (List.Sublist.refl _)))) ?_
    refine ad_one 7 HL48 (by kernel_rfl) (bs_callx 126 #[.agg #[.slice (some ⟨g40, 0, none⟩) (([((f : Nat), (1 : Int))]).length) cp40, .int .i64 1], .agg #[.slice (some ⟨g48, 0, none⟩) ((L i).length) cp48, .int .i64 (dd i)]] HB rfl (by kernel_rfl) (fun _ => by kernel_rfl) (List.Sublist.cons_cons _ (List.Sublist.cons_cons _ (List.Sublist.cons _ (List.Sublist.cons _ (List.Sublist.cons _ (List.Sublist.cons_cons _ (List.Sublist.refl _))))))) (fun u hu => callx_of (quotient_any (some ⟨g40, 0, none⟩) cp40 [((f : Nat), (1 : Int))] 1 (some ⟨g48, 0, none⟩) cp48 (L i) (dd i) u (tmc_row (i := 1) hu rfl ht40 hc40) (tmc_row (i := 0) hu rfl ht48 hc48) (by simp) (hLl i (by omega)) (bd_one f) (hLb i (by omega)) (by omega) (by omega) (hq.d1 i (by omega)) (hq.d2 i (by omega)))) ?_)
    intro u54 v51 w49 hu55 R52 hb53 HL50
    obtain ⟨vv56, rfl, hrow56⟩ := R52
    obtain ⟨g56, cp56, cu56, rfl, hc56, ht56, HL56⟩ := rowT_push HL50 hu55 hrow56 (qL_ne f (L i) (dd i))
    clear HL48
    refine ad_more (rowsR' := ((g56, 84, cu56) :: (g48, 84, cu48) :: (g40, 84, cu40) :: (g1, 109, [.int .i64 a, .int .i64 t0, .int .i64 t, .slice (some ⟨g, 0, none⟩) 12 12]) :: rowsL)) (HL56.forget (List.Sublist.cons_cons _ (List.Sublist.cons_cons _ (List.Sublist.cons_cons _ (List.Sublist.cons _ (List.Sublist.cons _ (List.Sublist.cons _ (List.Sublist.cons_cons _ (List.Sublist.refl _))))))))) (List.Sublist.cons _ (List.Sublist.cons_cons _ (List.Sublist.cons_cons _ (List.Sublist.cons_cons _ (List.Sublist.refl _))))) ?_
    refine ad_one 8 HL56 (by kernel_rfl) (bs_callw 123 #[.int .i64 (i : Int), .agg #[.slice (some ⟨g56, 0, none⟩) ((qL f (L i) (dd i)).length) cp56, .int .i64 (1 * dd i)], .pointer (some ⟨g10, 0, none⟩), .pointer (some ⟨g4, 0, none⟩), .pointer (some ⟨g7, 0, none⟩)] HB rfl (by kernel_rfl) (fun _ => by kernel_rfl) (fun u hu => keep_step w u [(g56, 84, cu56), (g48, 84, cu48), (g40, 84, cu40)] rowsL g10 g4 g7 g1 [.int .i64 a, .int .i64 t0, .int .i64 t, .slice (some ⟨g, 0, none⟩) 12 12] (fun n => qL f (L n) (dd n)) dd hq i (by omega) n0 Aa na ca da Al cl ll dl hst (some ⟨g56, 0, none⟩) cp56 (qL f (L i) (dd i)).length (1 * dd i) (Int.one_mul _) rfl ⟨_, _, rfl, List.Mem.head _, ht56, hc56⟩ hu) ?_)
    intro v59 w57 R60
    obtain ⟨rfl, n0_61, Aa_61, na_61, ca_61, da_61, Al_61, cl_61, ll_61, dl_61, rowsL_61, hst_61, HK61⟩ := R60
    replace HK61 : Loc w ((g10, 113, [.slice Al_61 ll_61.length cl_61, .int .i64 dl_61]) :: (g4, 3, [.int .i64 n0_61]) :: (g7, 113, [.slice Aa_61 na_61 ca_61, .int .i64 da_61]) :: (g1, 109, [.int .i64 a, .int .i64 t0, .int .i64 t, .slice (some ⟨g, 0, none⟩) 12 12]) :: rowsL_61) w57 := HK61
    clear HL56
    refine ad_done HK61 (by kernel_rfl) (fun w63 HL62 => ?_)
    clear HK61
    refine aw_n_in ?_
    refine aw_n_then ?_
    refine aw_reg ?_
    refine ax_val (v := .int .i64 (IntKind.i64.wrap ((i : Int) + 1))) (.int .i64 ((i + 1 : Nat) : Int)) HB (by kernel_rfl) (by kernel_rfl) (congrArg (Value.int .i64) ((IntWalk.i64_in ((i : Int) + 1) (by omega)).trans rfl)) ?_
    refine ax_val (v := .int .i64 ((i + 1 : Nat) : Int)) (.int .i64 ((i + 1 : Nat) : Int)) HB (by kernel_rfl) (by kernel_rfl) (rfl) ?_
    refine aw_nil ?_
    refine aw_round ⟨_, ?_, (i + 1), (n0_61), (Aa_61), (na_61), (ca_61), (da_61), (Al_61), (cl_61), (ll_61), (dl_61), (rowsL_61), (.int .i64 (i : Int)), (.bool true), (.int .i64 (i : Int)), (.func (.func 123) #[] #[.pointer (some ⟨g10, 0, none⟩), .pointer (some ⟨g4, 0, none⟩), .pointer (some ⟨g7, 0, none⟩)]), (.int .i64 (i : Int)), (.int .i64 (f : Int)), (.agg #[.slice (some ⟨g40, 0, none⟩) (([((f : Nat), (1 : Int))]).length) cp40, .int .i64 1]), (.agg #[.int .i64 a, .int .i64 t0, .int .i64 t, .slice (some ⟨g, 0, none⟩) 12 12]), (.int .i64 (i : Int)), (.agg #[.slice (some ⟨g48, 0, none⟩) ((L i).length) cp48, .int .i64 (dd i)]), (.agg #[.slice (some ⟨g56, 0, none⟩) ((qL f (L i) (dd i)).length) cp56, .int .i64 (1 * dd i)]), (.tuple #[]), (.int .i64 ((i + 1 : Nat) : Int)), rfl, (by kernel_rfl), HL62, ?_, ?_⟩
    · omega
    · show i + 1 ≤ 140; omega
    · exact hst_61
  · intro f30
    have k30 := of_decide_eq_false f30
    refine aw_nil ?_
    refine aw_n_then ?_
    refine aw_seq ?_
    refine ax_no HB (by kernel_rfl) ?_
    refine aw_exit ?_
    refine aw_e_then ?_
    refine aw_e_then ?_
    refine aw_e_in ?_
    refine aw_n_then ?_
    refine aw_seq ?_
    refine aw_cut (fun eX bX uX => eX = .normal ∧ bX = ⟨#[.agg #[.int .i64 a, .int .i64 t0, .int .i64 t, .slice (some ⟨g, 0, none⟩) 12 12], .int .i64 (f : Int), .pointer (some ⟨g1, 0, none⟩), undef, .pointer (some ⟨g4, 0, none⟩), .pointer (some ⟨g7, 0, none⟩), .pointer (some ⟨g10, 0, none⟩), .func (.func 123) #[] #[.pointer (some ⟨g10, 0, none⟩), .pointer (some ⟨g4, 0, none⟩), .pointer (some ⟨g7, 0, none⟩)], j8_13, .func (.func 123) #[] #[.pointer (some ⟨g10, 0, none⟩), .pointer (some ⟨g4, 0, none⟩), .pointer (some ⟨g7, 0, none⟩)], .int .i64 (i : Int), .bool false, j12_15, j13_16, j14_17, j15_18, j16_19, j17_20, j18_21, j19_22, j20_23, j21_24, j22_25, .int .i64 n0, .agg #[.slice Aa na ca, .int .i64 da]], []⟩ ∧ Loc w ((g10, 113, [.slice Al ll.length cl, .int .i64 dl]) :: (g4, 3, [.int .i64 n0]) :: (g7, 113, [.slice Aa na ca, .int .i64 da]) :: (g1, 109, [.int .i64 a, .int .i64 t0, .int .i64 t, .slice (some ⟨g, 0, none⟩) 12 12]) :: rowsL) uX) ?_ ?_
    · refine ad_start ((g10, 113, [.slice Al ll.length cl, .int .i64 dl]) :: (g1, 109, [.int .i64 a, .int .i64 t0, .int .i64 t, .slice (some ⟨g, 0, none⟩) 12 12]) :: rowsL) HL26 (by kernel_rfl) (List.Sublist.cons_cons _ (List.Sublist.cons _ (List.Sublist.cons _ (List.Sublist.cons_cons _ (List.Sublist.refl _))))) rfl ?_
      intro w65 HL64
      clear HL26
      refine ad_two 0 1 HL64 (by kernel_rfl) ?_ ?_
      · skip
        refine bs_load 3 (.tmp 4) 1 g4 0 3 [.int .i64 n0] (.int .i64 n0) _ HB rfl (by kernel_rfl) rfl (by kernel_rfl) rfl rfl Tryd.underlying3 rfl (List.Sublist.cons_cons _ (List.Sublist.cons _ (List.Sublist.cons _ (List.Sublist.cons_cons _ (List.Sublist.refl _))))) ?_
        intro w94 HL95
        clear HL64
        refine ad_two 1 2 HL95 (by kernel_rfl) ?_ ?_
        · skip
          refine bs_mid 113 (.tmp 5) 2 g7 0 113 [.slice Aa na ca, .int .i64 da] [.slice Aa na ca, .int .i64 da] _ HB rfl (by kernel_rfl) rfl (by kernel_rfl) rfl rfl Tryd.underlying113 rfl (by kernel_rfl) (List.Sublist.cons_cons _ (List.Sublist.cons _ (List.Sublist.cons _ (List.Sublist.cons_cons _ (List.Sublist.refl _))))) ?_
          intro w96 HL97
          clear HL95
          refine ad_one 2 HL97 (by kernel_rfl) (bs_store 3 (.tmp 4) (.tmp 23) 1 g4 0 3 [.int .i64 n0] [.int .i64 n0] [.int .i64 n0] ((g10, 113, [.slice Al ll.length cl, .int .i64 dl]) :: (g4, 3, [.int .i64 n0]) :: (g7, 113, [.slice Aa na ca, .int .i64 da]) :: (g1, 109, [.int .i64 a, .int .i64 t0, .int .i64 t, .slice (some ⟨g, 0, none⟩) 12 12]) :: rowsL) HB rfl (by kernel_rfl) rfl (by kernel_rfl) (by kernel_rfl) rfl (by kernel_rfl) (by kernel_rfl) (Nat.le_of_ble_eq_true rfl) rfl rfl (List.Sublist.cons_cons _ (List.Sublist.cons _ (List.Sublist.cons _ (List.Sublist.cons_cons _ (List.Sublist.refl _))))) ?_)
          intro w98 HL99
          clear HL97
          refine ad_one 3 HL99 (by kernel_rfl) (bs_store 113 (.tmp 5) (.tmp 24) 2 g7 0 113 [.slice Aa na ca, .int .i64 da] [.slice Aa na ca, .int .i64 da] [.slice Aa na ca, .int .i64 da] ((g10, 113, [.slice Al ll.length cl, .int .i64 dl]) :: (g4, 3, [.int .i64 n0]) :: (g7, 113, [.slice Aa na ca, .int .i64 da]) :: (g1, 109, [.int .i64 a, .int .i64 t0, .int .i64 t, .slice (some ⟨g, 0, none⟩) 12 12]) :: rowsL) HB rfl (by kernel_rfl) rfl (by kernel_rfl) (by kernel_rfl) rfl (by kernel_rfl) (by kernel_rfl) (Nat.le_of_ble_eq_true rfl) rfl rfl (List.Sublist.cons_cons _ (List.Sublist.cons _ (List.Sublist.cons _ (List.Sublist.cons_cons _ (List.Sublist.refl _))))) ?_)
          intro w100 HL101
          clear HL99
          refine ad_done HL101 (by kernel_rfl) (fun w103 HL102 => ?_)
          clear HL101
          exact ⟨⟨rfl, (by kernel_rfl), HL102⟩⟩
        · skip
          refine bs_store 3 (.tmp 4) (.tmp 23) 1 g4 0 3 [.int .i64 n0] [.int .i64 n0] [.int .i64 n0] ((g10, 113, [.slice Al ll.length cl, .int .i64 dl]) :: (g4, 3, [.int .i64 n0]) :: (g7, 113, [.slice Aa na ca, .int .i64 da]) :: (g1, 109, [.int .i64 a, .int .i64 t0, .int .i64 t, .slice (some ⟨g, 0, none⟩) 12 12]) :: rowsL) HB rfl (by kernel_rfl) rfl (by kernel_rfl) (by kernel_rfl) rfl (by kernel_rfl) (by kernel_rfl) (Nat.le_of_ble_eq_true rfl) rfl rfl (List.Sublist.cons_cons _ (List.Sublist.cons _ (List.Sublist.cons _ (List.Sublist.cons_cons _ (List.Sublist.refl _))))) ?_
          intro w104 HL105
          clear HL95
          refine ad_one 1 HL105 (by kernel_rfl) (bs_mid 113 (.tmp 5) 2 g7 0 113 [.slice Aa na ca, .int .i64 da] [.slice Aa na ca, .int .i64 da] _ HB rfl (by kernel_rfl) rfl (by kernel_rfl) rfl rfl Tryd.underlying113 rfl (by kernel_rfl) (List.Sublist.cons_cons _ (List.Sublist.cons _ (List.Sublist.cons _ (List.Sublist.cons_cons _ (List.Sublist.refl _))))) ?_)
          intro w106 HL107
          clear HL105
          refine ad_one 3 HL107 (by kernel_rfl) (bs_store 113 (.tmp 5) (.tmp 24) 2 g7 0 113 [.slice Aa na ca, .int .i64 da] [.slice Aa na ca, .int .i64 da] [.slice Aa na ca, .int .i64 da] ((g10, 113, [.slice Al ll.length cl, .int .i64 dl]) :: (g4, 3, [.int .i64 n0]) :: (g7, 113, [.slice Aa na ca, .int .i64 da]) :: (g1, 109, [.int .i64 a, .int .i64 t0, .int .i64 t, .slice (some ⟨g, 0, none⟩) 12 12]) :: rowsL) HB rfl (by kernel_rfl) rfl (by kernel_rfl) (by kernel_rfl) rfl (by kernel_rfl) (by kernel_rfl) (Nat.le_of_ble_eq_true rfl) rfl rfl (List.Sublist.cons_cons _ (List.Sublist.cons _ (List.Sublist.cons _ (List.Sublist.cons_cons _ (List.Sublist.refl _))))) ?_)
          intro w108 HL109
          clear HL107
          refine ad_done HL109 (by kernel_rfl) (fun w111 HL110 => ?_)
          clear HL109
          exact ⟨⟨rfl, (by kernel_rfl), HL110⟩⟩
      · skip
        refine bs_mid 113 (.tmp 5) 2 g7 0 113 [.slice Aa na ca, .int .i64 da] [.slice Aa na ca, .int .i64 da] _ HB rfl (by kernel_rfl) rfl (by kernel_rfl) rfl rfl Tryd.underlying113 rfl (by kernel_rfl) (List.Sublist.cons_cons _ (List.Sublist.cons _ (List.Sublist.cons _ (List.Sublist.cons_cons _ (List.Sublist.refl _))))) ?_
        intro w112 HL113
        clear HL64
        refine ad_one 0 HL113 (by kernel_rfl) (bs_load 3 (.tmp 4) 1 g4 0 3 [.int .i64 n0] (.int .i64 n0) _ HB rfl (by kernel_rfl) rfl (by kernel_rfl) rfl rfl Tryd.underlying3 rfl (List.Sublist.cons_cons _ (List.Sublist.cons _ (List.Sublist.cons _ (List.Sublist.cons_cons _ (List.Sublist.refl _))))) ?_)
        intro w114 HL115
        clear HL113
        refine ad_one 2 HL115 (by kernel_rfl) (bs_store 3 (.tmp 4) (.tmp 23) 1 g4 0 3 [.int .i64 n0] [.int .i64 n0] [.int .i64 n0] ((g10, 113, [.slice Al ll.length cl, .int .i64 dl]) :: (g4, 3, [.int .i64 n0]) :: (g7, 113, [.slice Aa na ca, .int .i64 da]) :: (g1, 109, [.int .i64 a, .int .i64 t0, .int .i64 t, .slice (some ⟨g, 0, none⟩) 12 12]) :: rowsL) HB rfl (by kernel_rfl) rfl (by kernel_rfl) (by kernel_rfl) rfl (by kernel_rfl) (by kernel_rfl) (Nat.le_of_ble_eq_true rfl) rfl rfl (List.Sublist.cons_cons _ (List.Sublist.cons _ (List.Sublist.cons _ (List.Sublist.cons_cons _ (List.Sublist.refl _))))) ?_)
        intro w116 HL117
        clear HL115
        refine ad_one 3 HL117 (by kernel_rfl) (bs_store 113 (.tmp 5) (.tmp 24) 2 g7 0 113 [.slice Aa na ca, .int .i64 da] [.slice Aa na ca, .int .i64 da] [.slice Aa na ca, .int .i64 da] ((g10, 113, [.slice Al ll.length cl, .int .i64 dl]) :: (g4, 3, [.int .i64 n0]) :: (g7, 113, [.slice Aa na ca, .int .i64 da]) :: (g1, 109, [.int .i64 a, .int .i64 t0, .int .i64 t, .slice (some ⟨g, 0, none⟩) 12 12]) :: rowsL) HB rfl (by kernel_rfl) rfl (by kernel_rfl) (by kernel_rfl) rfl (by kernel_rfl) (by kernel_rfl) (Nat.le_of_ble_eq_true rfl) rfl rfl (List.Sublist.cons_cons _ (List.Sublist.cons _ (List.Sublist.cons _ (List.Sublist.cons_cons _ (List.Sublist.refl _))))) ?_)
        intro w118 HL119
        clear HL117
        refine ad_done HL119 (by kernel_rfl) (fun w121 HL120 => ?_)
        clear HL119
        exact ⟨⟨rfl, (by kernel_rfl), HL120⟩⟩
    · rintro _ _ w122 ⟨rfl, rfl, HL123⟩
      clear HL26
      clear HB
      have HB : Array.size (#[.agg #[.int .i64 a, .int .i64 t0, .int .i64 t, .slice (some ⟨g, 0, none⟩) 12 12], .int .i64 (f : Int), .pointer (some ⟨g1, 0, none⟩), undef, .pointer (some ⟨g4, 0, none⟩), .pointer (some ⟨g7, 0, none⟩), .pointer (some ⟨g10, 0, none⟩), .func (.func 123) #[] #[.pointer (some ⟨g10, 0, none⟩), .pointer (some ⟨g4, 0, none⟩), .pointer (some ⟨g7, 0, none⟩)], j8_13, .func (.func 123) #[] #[.pointer (some ⟨g10, 0, none⟩), .pointer (some ⟨g4, 0, none⟩), .pointer (some ⟨g7, 0, none⟩)], .int .i64 (i : Int), .bool false, j12_15, j13_16, j14_17, j15_18, j16_19, j17_20, j18_21, j19_22, j20_23, j21_24, j22_25, .int .i64 n0, .agg #[.slice Aa na ca, .int .i64 da]] : Array Value) = 25 := by kernel_rfl
      refine Boxw.out (ax_re ?_)
      refine aw_n_then ?_
      refine aw_ret ?_
      refine aw_end (.tuple #[.int .i64 n0, .agg #[.slice Aa na ca, .int .i64 da]]) (by kernel_rfl) (res_cc Tryd.results69 (by kernel_rfl) (by kernel_rfl) (run_loadS (A := ⟨g4, 0, none⟩) Tryd.underlying3 rfl ((HL123.get (i := 1) rfl).cell rfl)) (loc_var HL123 (i := 2) rfl Tryd.underlying113 rfl (by kernel_rfl))) ?_
      obtain ⟨N, A, c, hN, rfl, e1, e2, hlv, -, -, -, hmin⟩ := hst (by omega)
      cases e1
      cases e2
      obtain ⟨gz, curz, rfl, hmz, htz, hcz⟩ := hlv
      exact ⟨N, gz, curz, _, by omega, rfl, htz, hcz, (HL123.forget (List.Sublist.cons _ (List.Sublist.cons _ (List.Sublist.cons _ (List.Sublist.cons _ (List.Sublist.refl _)))))).forget (List.singleton_sublist.2 hmz), fun k hk => hmin k (by omega), HL123.bel⟩

end Go.Proofs.YtmbcejldifobnaaDoor.Pc

namespace Go.Proofs.YtmbcejldifobnaaDoor
def ex (p : Nat) : List (Nat × Int) → Int
  | [] => 0
  | x :: r => (if x.1 = p then x.2 else 0) + ex p r
theorem ex_append (p : Nat) : ∀ a b, ex p (a ++ b) = ex p a + ex p b
  | [], b => by simp [ex]
  | x :: r, b => by rw [List.cons_append, ex, ex, ex_append p r b]; omega
theorem ex_scL (p : Nat) (s : Int) : ∀ l, ex p (scL s l) = ex p l * s
  | [] => by simp [scL, ex]
  | x :: r => by
    show (if x.1 = p then x.2 * s else 0) + ex p (scL s r) = ((if x.1 = p then x.2 else 0) + ex p r) * s
    rw [ex_scL p s r, Int.add_mul]
    split <;> simp
theorem ex_nz (p : Nat) : ∀ l, ex p (nz l) = ex p l
  | [] => rfl
  | x :: r => by
    by_cases h : x.2 = 0
    · have e : nz (x :: r) = nz r := by unfold nz; rw [List.filter_cons, if_neg (by simp [h])]
      rw [e, ex_nz p r, ex, h]; simp
    · have e : nz (x :: r) = x :: nz r := by unfold nz; rw [List.filter_cons, if_pos (by simp [h])]
      rw [e, ex, ex, ex_nz p r]
def drp (p : Nat) (l : List (Nat × Int)) : List (Nat × Int) := l.filter fun x => x.1 != p
def pu (p : Nat) : List (Nat × Int) → Nat
  | [] => 0
  | x :: r => (if x.1 = p then x.2.toNat else 0) + pu p r
def pd (p : Nat) : List (Nat × Int) → Nat
  | [] => 0
  | x :: r => (if x.1 = p then (-x.2).toNat else 0) + pd p r
theorem ex_pu (p : Nat) : ∀ l, ex p l = (pu p l : Int) - (pd p l : Int)
  | [] => rfl
  | x :: r => by
    rw [ex, pu, pd, ex_pu p r]
    split <;> omega
theorem drp_P (p : Nat) : ∀ l, upP l = p ^ pu p l * upP (drp p l) ∧ dnP l = p ^ pd p l * dnP (drp p l)
  | [] => by simp [pu, pd, drp, upP, dnP]
  | x :: r => by
    obtain ⟨h1, h2⟩ := drp_P p r
    by_cases h : x.1 = p
    · have e : drp p (x :: r) = drp p r := by unfold drp; rw [List.filter_cons, if_neg (by simp [h])]
      rw [e, pu, pd, if_pos h, if_pos h]
      constructor
      · show x.1 ^ x.2.toNat * upP r = _; rw [h1, h, Nat.pow_add, Nat.mul_assoc]
      · show x.1 ^ (-x.2).toNat * dnP r = _; rw [h2, h, Nat.pow_add, Nat.mul_assoc]
    · have e : drp p (x :: r) = x :: drp p r := by unfold drp; rw [List.filter_cons, if_pos (by simp [h])]
      rw [e, pu, pd, if_neg h, if_neg h, Nat.zero_add, Nat.zero_add]
      constructor
      · show x.1 ^ x.2.toNat * upP r = _ * (x.1 ^ x.2.toNat * upP (drp p r)); rw [h1, Nat.mul_left_comm]
      · show x.1 ^ (-x.2).toNat * dnP r = _ * (x.1 ^ (-x.2).toNat * dnP (drp p r)); rw [h2, Nat.mul_left_comm]
theorem drp_len (p : Nat) (l : List (Nat × Int)) : (drp p l).length ≤ l.length := List.length_filter_le _ _
theorem ex_drp (p q : Nat) : ∀ l, ex q (drp p l) = if q = p then 0 else ex q l
  | [] => by simp [drp, ex]
  | x :: r => by
    by_cases h : x.1 = p
    · have e : drp p (x :: r) = drp p r := by unfold drp; rw [List.filter_cons, if_neg (by simp [h])]
      rw [e, ex_drp p q r, ex]
      split
      · rfl
      · rw [if_neg (by omega)]; omega
    · have e : drp p (x :: r) = x :: drp p r := by unfold drp; rw [List.filter_cons, if_pos (by simp [h])]
      rw [e, ex, ex, ex_drp p q r]
      by_cases hq : q = p
      · rw [if_pos hq, if_pos hq, if_neg (by omega)]; rfl
      · rw [if_neg hq, if_neg hq]
theorem ex_one : ∀ (n : Nat) (l : List (Nat × Int)), l.length ≤ n → (∀ p, ex p l = 0) → upP l = dnP l
  | _, [], _, _ => rfl
  | 0, x :: r, h, _ => by simp at h
  | n + 1, x :: r, h, h0 => by
    obtain ⟨e1, e2⟩ := drp_P x.1 (x :: r)
    have e3 := ex_pu x.1 (x :: r)
    rw [h0] at e3
    have hl : (drp x.1 (x :: r)).length ≤ n := by
      have e : drp x.1 (x :: r) = drp x.1 r := by unfold drp; rw [List.filter_cons, if_neg (by simp)]
      rw [e]
      have := drp_len x.1 r
      simp at h
      omega
    have h4 : ∀ p, ex p (drp x.1 (x :: r)) = 0 := fun p => by
      rw [ex_drp]
      split
      · rfl
      · exact h0 p
    rw [e1, e2, ex_one n _ hl h4, show pu x.1 (x :: r) = pd x.1 (x :: r) by omega]
def invL (l : List (Nat × Int)) : List (Nat × Int) := l.map fun x => (x.1, -x.2)
theorem invL_P : ∀ l, upP (invL l) = dnP l ∧ dnP (invL l) = upP l
  | [] => ⟨rfl, rfl⟩
  | x :: r => by
    obtain ⟨h1, h2⟩ := invL_P r
    constructor
    · show x.1 ^ (-x.2).toNat * upP (invL r) = _; rw [h1]; rfl
    · show x.1 ^ (- -x.2).toNat * dnP (invL r) = _; rw [h2, Int.neg_neg]; rfl
theorem ex_inv (p : Nat) : ∀ l, ex p (invL l) = -ex p l
  | [] => rfl
  | x :: r => by
    show (if x.1 = p then -x.2 else 0) + ex p (invL r) = -((if x.1 = p then x.2 else 0) + ex p r)
    rw [ex_inv p r]
    split <;> omega
theorem eqv_ex {l l' : List (Nat × Int)} (h : ∀ p, ex p l = ex p l') : eqvP l l' := by
  have h2 := ex_one _ (l ++ invL l') (Nat.le_refl _) (fun p => by rw [ex_append, ex_inv, h p]; omega)
  rw [upP_append, dnP_append, (invL_P l').1, (invL_P l').2] at h2
  exact h2
theorem sgn_ex {l l' : List (Nat × Int)} (hp : posN l) (hp' : posN l') (h : ∀ p, ex p l = ex p l') : sgnP l = sgnP l' := (eqv_ex h).sgn hp hp'
/-- The exponents of a ratio. -/
theorem ex_zl (p : Nat) (v : V6) : ex p v.zl = (if 2 = p then v.a else 0) + ((if 3 = p then v.b else 0) + ((if 5 = p then v.c else 0) + ((if 7 = p then v.d else 0) + ((if 11 = p then v.e else 0) + ((if 13 = p then v.f else 0) + 0))))) := rfl
theorem ex_two (p : Nat) (v : V6) (x : Int) : ex p (v.two x).zl = ex p v.zl + (if 2 = p then x else 0) := by
  rw [ex_zl, ex_zl]
  show (if 2 = p then v.a + x else 0) + _ = _
  split <;> (simp only [V6.two]; omega)
theorem ex_single (p n : Nat) (a : Int) : ex p [(n, a)] = if n = p then a else 0 := by simp [ex]
theorem posN_cons {x : Nat × Int} {l : List (Nat × Int)} : posN (x :: l) ↔ 1 ≤ x.1 ∧ posN l := by unfold posN; simp
theorem posN_nil : posN [] := fun _ h => by cases h
theorem posN_scL {l : List (Nat × Int)} (s : Int) (h : posN l) : posN (scL s l) := fun x hx => by
  obtain ⟨y, hy, rfl⟩ := List.mem_map.1 hx
  exact h y hy
/-- Products of what is at most 1. -/
theorem sgn_le_mul {l u v : List (Nat × Int)} (hl : posN l) (hu : posN u) (hv : posN v) (h : ∀ p, ex p l = ex p u + ex p v) (h1 : sgnP u ≤ 0) (h2 : sgnP v ≤ 0) : sgnP l ≤ 0 := by
  have e := sgn_ex (l := invL l) (l' := invL u ++ invL v) (fun x hx => by obtain ⟨y, hy, rfl⟩ := List.mem_map.1 hx; exact hl y hy) (posN_append.2 ⟨fun x hx => by obtain ⟨y, hy, rfl⟩ := List.mem_map.1 hx; exact hu y hy, fun x hx => by obtain ⟨y, hy, rfl⟩ := List.mem_map.1 hx; exact hv y hy⟩) (fun p => by rw [ex_append, ex_inv, ex_inv, ex_inv, h p]; omega)
  have neg : ∀ l, sgnP (invL l) = -sgnP l := fun l => by
    unfold sgnP
    rw [(invL_P l).1, (invL_P l).2]
    by_cases h1 : upP l = dnP l
    · rw [if_pos h1.symm, if_pos h1]; rfl
    · rw [if_neg (fun h => h1 h.symm), if_neg h1]
      by_cases h2 : dnP l < upP l
      · rw [if_neg (by omega), if_pos h2]
      · rw [if_pos (by omega), if_neg h2]; rfl
  have h3 := sgn_mul_ge (l := invL u ++ invL v) (u := invL u) (v := invL v) (posN_append.2 ⟨fun x hx => by obtain ⟨y, hy, rfl⟩ := List.mem_map.1 hx; exact hu y hy, fun x hx => by obtain ⟨y, hy, rfl⟩ := List.mem_map.1 hx; exact hv y hy⟩) (fun x hx => by obtain ⟨y, hy, rfl⟩ := List.mem_map.1 hx; exact hu y hy) (fun x hx => by obtain ⟨y, hy, rfl⟩ := List.mem_map.1 hx; exact hv y hy) (eqvP.refl _) (by rw [neg]; omega) (by rw [neg]; omega)
  rw [← e, neg] at h3
  omega
theorem sgn_lt_mul {l u v : List (Nat × Int)} (hl : posN l) (hu : posN u) (hv : posN v) (h : ∀ p, ex p l = ex p u + ex p v) (h1 : sgnP u < 0) (h2 : sgnP v ≤ 0) : sgnP l < 0 :=
  sgn_mul_lt hl hu hv (eqv_ex fun p => by rw [ex_append, h p]) h1 h2
end Go.Proofs.YtmbcejldifobnaaDoor

namespace Go.Proofs.YtmbcejldifobnaaDoor.Pc
open Go.RowKit Tp
theorem posN_pw {l : List (Nat × Int)} {S k : Nat} {d : Int} (hl : posN l) (hS : 1 ≤ S) (hk : 1 ≤ k) : posN (l ++ [(S, d)] ++ [(k, -d)]) :=
  posN_append.2 ⟨posN_append.2 ⟨hl, posN_cons.2 ⟨hS, posN_nil⟩⟩, posN_cons.2 ⟨hk, posN_nil⟩⟩
theorem sgn_base {l : List (Nat × Int)} {a b e : Nat} (h : a < b) (he : 0 < e) (hl : posN l) (hb : 0 ≤ sgnP (l ++ [(b, -(e : Int))])) : 0 < sgnP (l ++ [(a, -(e : Int))]) := by
  rw [sgn_ge] at hb
  have key : dnP (l ++ [(a, -(e : Int))]) < upP (l ++ [(a, -(e : Int))]) := by
    rw [upP_append, dnP_append] at hb ⊢
    have e1 : ∀ n, upP [(n, -(e : Int))] = 1 := fun n => by
      show n ^ (-(e : Int)).toNat * 1 = 1
      rw [show (-(e : Int)).toNat = 0 by omega]; rfl
    have e2 : ∀ n, dnP [(n, -(e : Int))] = n ^ e := fun n => by
      show n ^ (- -(e : Int)).toNat * 1 = n ^ e
      rw [Int.neg_neg, Int.toNat_natCast, Nat.mul_one]
    rw [e1, e2] at hb ⊢
    have h1 : a ^ e < b ^ e := Nat.pow_lt_pow_left h (by omega)
    exact Nat.lt_of_lt_of_le (Nat.mul_lt_mul_of_pos_left h1 (dnP_pos' hl)) hb
  rw [sgn_up key]; omega
/-- The greater the number, the less the sign. -/
theorem PwF_anti {l : List (Nat × Int)} {d : Int} {S : Nat} (hl : posN l) (hd : 1 ≤ d) (hS : 1 ≤ S) {x y : Int} (hx : 0 ≤ x) (h : x < y) (hy : 0 ≤ PwF l d S y) : 0 < PwF l d S x := by
  unfold PwF at hy ⊢
  rw [if_neg (by omega)] at hy
  by_cases h0 : x = 0
  · rw [if_pos h0]; omega
  · rw [if_neg h0]
    obtain ⟨e, rfl⟩ := Int.eq_ofNat_of_zero_le (show 0 ≤ d by omega)
    exact sgn_base (a := x.toNat) (by omega) (by omega) (posN_append.2 ⟨hl, posN_cons.2 ⟨hS, posN_nil⟩⟩) hy
theorem ex_of (p n : Nat) (a : Int) : ex p [(n, a)] = ex p [(n, 1)] * a := by rw [ex_single, ex_single]; split <;> simp
end Go.Proofs.YtmbcejldifobnaaDoor.Pc

namespace Go.Proofs.YtmbcejldifobnaaDoor.Tp
open Go.RowKit
def dfV (D : Int) (F : Nat → V6) (wf i j : Nat) : V6 := (PS (FF D F wf) j).add (V6.scl (-1) (PS (FF D F wf) i))
theorem dfV_neg (D : Int) (F : Nat → V6) (wf i j : Nat) : V6.scl (-1) (dfV D F wf i j) = dfV D F wf j i := by
  unfold dfV V6.scl V6.add; apply V6.eq <;> simp only <;> grind
theorem dfV_le {D : Int} {F : Nat → V6} {wf i j : Nat} (h : i ≤ j) : dfV D F wf i j = PS (fun t => FF D F wf (i + t)) (j - i) := by
  have e := PS_add (FF D F wf) i (j - i)
  rw [show i + (j - i) = j by omega] at e
  unfold dfV
  rw [e]
  unfold V6.scl V6.add; apply V6.eq <;> simp only <;> grind
theorem dfV_mid {D : Int} {F : Nat → V6} {wf i j : Nat} (hw : wf < 12) (h1 : i ≤ wf) (h2 : wf < j) (hj : j ≤ 12) : dfV D F wf i j = (octV (7 * D)).add (V6.scl (-1) ((PS (fun t => F (j + t)) (12 - j)).add (PS F i))) := by
  unfold dfV
  rw [FF_tail hw hj]
  have e1 : PS (fun t => FF D F wf (j + t)) (12 - j) = PS (fun t => F (j + t)) (12 - j) := PS_congr fun t _ => FF_ne (by omega)
  have e2 : PS (FF D F wf) i = PS F i := PS_congr fun t _ => FF_ne (by omega)
  rw [e1, e2]
  unfold V6.scl V6.add; apply V6.eq <;> simp only <;> grind
theorem dfV_out {D : Int} {F : Nat → V6} {wf i j : Nat} (h : i ≤ j) (hw : wf < i ∨ j ≤ wf) : dfV D F wf i j = PS (fun t => F (i + t)) (j - i) := by
  rw [dfV_le h]
  exact PS_congr fun t _ => FF_ne (by omega)
theorem df_bd {D : Int} {F : Nat → V6} {wf i j : Nat} (h : Circ D F wf) (hi : i ≤ 12) (hj : j ≤ 12) : (dfV D F wf i j).bd 57000 := by
  have key : ∀ i j : Nat, i ≤ j → j ≤ 12 → (dfV D F wf i j).bd 57000 := by
    intro i j hij hj
    by_cases hw : wf < i ∨ j ≤ wf
    · rw [dfV_out hij hw]
      have hb : (PS (fun t => F (i + t)) (j - i)).bd ((j - i : Nat) * 4680) := PS_bd fun t ht => h.bd _ (by omega)
      exact hb.mono (by omega)
    · rw [dfV_mid h.w (by omega) (by omega) hj]
      have hb1 : (PS (fun t => F (j + t)) (12 - j)).bd ((12 - j : Nat) * 4680) := PS_bd fun t ht => h.bd _ (by omega)
      have hb2 : (PS F i).bd (i * 4680) := PS_bd fun t ht => h.bd _ (by omega)
      have hd1 := h.d1
      have hd2 := h.d2
      exact ((octV_bd (x := 7 * D) (M := 840) (by omega) (by omega)).add (hb1.add hb2).neg).mono (by omega)
  rcases Nat.le_total i j with h1 | h1
  · exact key i j h1 hj
  · rw [← dfV_neg]; exact (key j i h1 hi).neg
theorem df_two_bd {D : Int} {F : Nat → V6} {wf i j : Nat} {k : Int} (h : Circ D F wf) (hi : i ≤ 12) (hj : j ≤ 12) (k1 : -100 ≤ k) (k2 : k ≤ 100) : ((dfV D F wf i j).two (-(k * D))).bd 70000 := by
  have h2 := mulD_bd h.d1 h.d2 k1 k2
  exact ((df_bd h hi hj).two (N := 12000) (by omega) (by omega)).mono (by omega)
end Go.Proofs.YtmbcejldifobnaaDoor.Tp

namespace Go.Proofs.YtmbcejldifobnaaDoor.Pc
open Go.RowKit Tp
/-- What is known of the ratio of a note to the note 69. -/
structure ROk (R : Rt) : Prop where
  d1 : 1 ≤ R.d
  d2 : R.d ≤ 120
  bd : R.v.bd 100000
  er : R.err = 0
  up : Sg (R.v.two (-(7 * R.d))) ≤ 0
  lo : 0 ≤ Sg (R.v.two (7 * R.d))
theorem Sg_two_le {v : V6} {x : Int} (hx : 0 ≤ x) (h : Sg v ≤ 0) : Sg (v.two (-x)) ≤ 0 := by
  have h1 : 0 ≤ Sg ((V6.scl (-1) v).two x) := Sg_two hx (by rw [Sg_neg]; omega)
  have e : (V6.scl (-1) v).two x = V6.scl (-1) (v.two (-x)) := by unfold V6.two V6.scl; apply V6.eq <;> simp only; grind
  rw [e, Sg_neg] at h1
  omega
theorem low_d {v : V6} {D : Int} (h1 : 1 ≤ D) (h2 : D ≤ 120) : 1 ≤ (lowR v D).d ∧ (lowR v D).d ≤ 120 := by
  have h := (quo_low (v := v) (d := D) (by omega)).2
  exact ⟨by show 1 ≤ D.tdiv (v.gs D); omega, (tdiv_bd (G := v.gs D) (x := D) (M := 120) (by omega)).2⟩
theorem noR_ok {D : Int} {F : Nat → V6} {wf i j n : Nat} {x y : Rt} (h : Circ D F wf) (hi : i ≤ 12) (hj : j ≤ 12) (hy : NoteIs D F wf i y) (hx : NoteIs D F wf j x) (hn : n ≤ 143) :
    1 ≤ (bothW x y (-1)).1.d ∧ (bothW x y (-1)).1.d ≤ 120 ∧ -100000 ≤ (bothW x y (-1)).1.v.a ∧ (bothW x y (-1)).1.v.a ≤ 100000 ∧ ROk (noR x y n) := by
  obtain ⟨ki, hki, rfl⟩ := hy
  obtain ⟨kj, hkj, rfl⟩ := hx
  have hd1 := h.d1
  have hd2 := h.d2
  have bi := h.sum_k hi hki
  have bj := h.sum_k hj hkj
  have e : ((PS (FF D F wf) j).two (-(kj * D))).add (V6.scl (-1) ((PS (FF D F wf) i).two (-(ki * D)))) = (dfV D F wf i j).two (-((kj - ki) * D)) := by
    unfold dfV V6.two V6.add V6.scl; apply V6.eq <;> simp only; grind
  have hbd := df_two_bd (k := kj - ki) h hi hj (by omega) (by omega)
  have hbo := both_low (s := -1) hd1 (by omega) ((h.note_bd hj hj hkj).mono (by omega)) ((h.note_bd hi hi hki).mono (by omega)) (by rw [e]; exact hbd.mono (by omega))
  rw [e] at hbo
  have bt : Bt D (dfV D F wf i j) (kj - (ki + 1)) (kj + 1 - ki) := by
    have h1 := (hkj.bt).add (hki.bt).neg
    have e1 : kj + -(ki + 1) = kj - (ki + 1) := by omega
    have e2 : kj + 1 + -ki = kj + 1 - ki := by omega
    rw [e1, e2] at h1
    exact h1
  obtain ⟨o, ho⟩ : ∃ o : Int, o = (n : Int) / 12 - 5 := ⟨_, rfl⟩
  have ho1 : -5 ≤ o ∧ o ≤ 6 := by omega
  have hno : noR (lowR ((PS (FF D F wf) j).two (-(kj * D))) D) (lowR ((PS (FF D F wf) i).two (-(ki * D))) D) n = lowR ((dfV D F wf i j).two (-((kj - ki - o) * D))) D := by
    unfold noR
    rw [hbo, ← ho]
    simp only
    have h1 := low_fold (v := (dfV D F wf i j).two (-((kj - ki) * D))) (D := D) (by omega) (-o)
    rw [V6.two_two, Int.neg_mul, Int.neg_neg] at h1
    rw [h1]
    congr 2
    grind
  have hb3 := df_two_bd (k := kj - ki - o) h hi hj (by omega) (by omega)
  have ok3 := lowR_ok hd1 (by omega) (hb3.mono (show (70000 : Int) ≤ 100000 by omega))
  rw [hbo, hno]
  simp only
  have q1 := low_d (v := (dfV D F wf i j).two (-((kj - ki) * D))) hd1 hd2
  have q2 := low_d (v := (dfV D F wf i j).two (-((kj - ki - o) * D))) hd1 hd2
  have va : -100000 ≤ (lowR ((dfV D F wf i j).two (-((kj - ki) * D))) D).v.a ∧ (lowR ((dfV D F wf i j).two (-((kj - ki) * D))) D).v.a ≤ 100000 := tdiv_bd (hbd.mono (show (70000 : Int) ≤ 100000 by omega)).1
  refine ⟨q1.1, q1.2, va.1, va.2, q2.1, q2.2, ?_, Rt.ok_iff.2 ok3, ?_, ?_⟩
  · obtain ⟨b1, b2, b3, b4, b5, b6⟩ := hb3.mono (show (70000 : Int) ≤ 100000 by omega)
    exact ⟨tdiv_bd b1, tdiv_bd b2, tdiv_bd b3, tdiv_bd b4, tdiv_bd b5, tdiv_bd b6⟩
  · have h1 := low_Fl (v := (dfV D F wf i j).two (-((kj - ki - o) * D))) (D := D) (by omega) 1 7
    unfold Fl at h1
    rw [V6.scl_one, V6.scl_one, V6.two_two] at h1
    rw [h1]
    have h2 : Sg ((dfV D F wf i j).two (-((kj + 1 - ki) * D))) ≤ 0 := by
      have h3 := bt.2
      have e3 : (V6.scl (-1) (dfV D F wf i j)).two ((kj + 1 - ki) * D) = V6.scl (-1) ((dfV D F wf i j).two (-((kj + 1 - ki) * D))) := by unfold V6.two V6.scl; apply V6.eq <;> simp only; grind
      rw [e3, Sg_neg] at h3
      omega
    have h4 := Sg_two_le (x := (6 - o) * D) (Int.mul_nonneg (by omega) (by omega)) h2
    rw [V6.two_two] at h4
    rw [show -((kj - ki - o) * D) + -(7 * D) = -((kj + 1 - ki) * D) + -((6 - o) * D) by grind]
    exact h4
  · have h1 := low_Fl (v := (dfV D F wf i j).two (-((kj - ki - o) * D))) (D := D) (by omega) 1 (-7)
    unfold Fl at h1
    rw [V6.scl_one, V6.scl_one, V6.two_two, Int.neg_mul, Int.neg_mul, Int.neg_neg, Int.neg_neg] at h1
    rw [h1]
    have h4 := Sg_two (x := (o + 6) * D) (Int.mul_nonneg (by omega) (by omega)) bt.1
    rw [V6.two_two] at h4
    rw [show -((kj - ki - o) * D) + 7 * D = -((kj - (ki + 1)) * D) + (o + 6) * D by grind]
    exact h4
def fqL (a : Nat) (t0 t : Int) (R : Rt) : List (Nat × Int) := scL 2 (scL R.d [(a, 1)] ++ scL 1 (nz R.v.zl)) ++ scL (1 * R.d) (fastL t0 t)
def fqD (R : Rt) : Int := 1 * R.d * 2
theorem ex_neg (p : Nat) (l : List (Nat × Int)) : ex p (negL l) = -ex p l := ex_inv p l
theorem ex_fq (p a : Nat) (t0 t : Int) (R : Rt) : ex p (fqL a t0 t R) = 2 * (R.d * ex p [(a, 1)] + ex p R.v.zl) + R.d * ex p (fastL t0 t) := by
  unfold fqL
  rw [ex_append, ex_scL, ex_append, ex_scL, ex_scL, ex_nz, ex_scL]
  grind
theorem fast_mem {a b : Int} {x : Nat × Int} (h1 : -20000 ≤ a) (h2 : a ≤ 50000) (h3 : -20000 ≤ b) (h4 : b ≤ 50000) (h : x ∈ fastL a b) : 1 ≤ x.1 ∧ x.1 ≤ 323150 ∧ x.2.natAbs ≤ 1 := by
  simp only [fastL, List.mem_cons, List.not_mem_nil, or_false] at h
  rcases h with rfl | rfl
  · simp only; omega
  · simp only; omega
theorem fq_one {a : Nat} {R : Rt} (hR : ROk R) (ha : 1 ≤ a) (ha2 : a ≤ 1000000) {x : Nat × Int} (h : x ∈ scL R.d [(a, 1)] ++ scL 1 (nz R.v.zl)) : 1 ≤ x.1 ∧ x.1 ≤ 1000000 ∧ x.2.natAbs ≤ 100000 := by
  have d1 := hR.d1
  have d2 := hR.d2
  rcases List.mem_append.1 h with h | h
  · obtain ⟨y, hy, rfl⟩ := List.mem_map.1 h
    rw [List.mem_singleton] at hy
    subst hy
    simp only
    omega
  · obtain ⟨y, hy, rfl⟩ := List.mem_map.1 h
    have h2 := zl_mem6 (List.mem_filter.1 hy).1
    have h3 : -100000 ≤ y.2 ∧ y.2 ≤ 100000 := by
      obtain ⟨b1, b2, b3, b4, b5, b6⟩ := hR.bd
      have h4 := h2.2
      unfold V6.l at h4
      simp only [List.mem_cons, List.not_mem_nil, or_false] at h4
      rcases h4 with h4 | h4 | h4 | h4 | h4 | h4 <;> (rw [h4]; assumption)
    simp only
    omega
theorem fq_len (a : Nat) (R : Rt) : (scL R.d [(a, 1)] ++ scL 1 (nz R.v.zl)).length ≤ 7 := by
  have h1 : (nz R.v.zl).length ≤ R.v.zl.length := List.length_filter_le _ _
  have h2 : R.v.zl.length = 6 := by unfold V6.zl V6.l ps6; simp
  simp only [List.length_append, scL_len, List.length_cons, List.length_nil]
  omega
theorem mul_abs {x d : Int} {K : Nat} (h : x.natAbs ≤ K) (h1 : 1 ≤ d) (h2 : d ≤ 120) : (x * d).natAbs ≤ K * 120 := by
  rw [Int.natAbs_mul]
  exact Nat.mul_le_mul h (by omega)
theorem fq_valid {a : Nat} {t0 t : Int} {R : Rt} (hR : ROk R) (ha : 1 ≤ a) (ha2 : a ≤ 1000000) (h1 : -20000 ≤ t0) (h2 : t0 ≤ 50000) (h3 : -20000 ≤ t) (h4 : t ≤ 50000) : validL (fqL a t0 t R) := by
  refine ⟨?_, fun x hx => ?_⟩
  · have := fq_len a R
    unfold fqL
    rw [List.length_append, scL_len, scL_len]
    simp only [fastL, List.length_cons, List.length_nil]
    omega
  · rcases List.mem_append.1 hx with hx | hx
    · obtain ⟨y, hy, rfl⟩ := List.mem_map.1 hx
      have := fq_one hR ha ha2 hy
      simp only
      omega
    · obtain ⟨y, hy, rfl⟩ := List.mem_map.1 hx
      have h5 := fast_mem h1 h2 h3 h4 hy
      have h6 := mul_abs h5.2.2 hR.d1 hR.d2
      rw [Int.one_mul]
      simp only
      omega
theorem sgn_scl {l : List (Nat × Int)} {k : Int} (hk : 0 < k) : sgnP (scL k l) = sgnP l := by
  obtain ⟨n, rfl⟩ := Int.eq_ofNat_of_zero_le (Int.le_of_lt hk)
  exact sgn_pow (by omega) (scL_P n l).1 (scL_P n l).2
theorem fast_two {a b : Int} (h1 : -20000 ≤ a) (h2 : a ≤ 50000) (h3 : -20000 ≤ b) (h4 : b ≤ 50000) : sgnP (fastL a b ++ [(2, -1)]) < 0 := by
  obtain ⟨m, hm⟩ : ∃ m : Nat, 273150 + a = (m : Int) := ⟨(273150 + a).toNat, by omega⟩
  obtain ⟨n, hn⟩ : ∃ n : Nat, 273150 + b = (n : Int) := ⟨(273150 + b).toNat, by omega⟩
  unfold fastL
  rw [hn, hm]
  simp only [Int.toNat_natCast, List.cons_append, List.nil_append]
  rw [sgn_lt]
  show n ^ 1 * (m ^ 0 * (2 ^ 0 * 1)) < n ^ 0 * (m ^ 1 * (2 ^ 1 * 1))
  simp only [Nat.pow_one, Nat.pow_zero, Nat.one_mul, Nat.mul_one]
  omega
theorem fast_pos {a b : Int} (h1 : -20000 ≤ a) (h2 : a ≤ 50000) (h3 : -20000 ≤ b) (h4 : b ≤ 50000) : posN (fastL a b) := fun x hx => (fast_mem h1 h2 h3 h4 hx).1
theorem fq_pos {a : Nat} {t0 t : Int} {R : Rt} (hR : ROk R) (ha : 1 ≤ a) (ha2 : a ≤ 1000000) (h1 : -20000 ≤ t0) (h2 : t0 ≤ 50000) (h3 : -20000 ≤ t) (h4 : t ≤ 50000) : posN (fqL a t0 t R) := fun x hx => ((fq_valid hR ha ha2 h1 h2 h3 h4).2 x hx).1
theorem lit_sgn (a S : Nat) (h : a ^ 2 * (2 ^ 15 * S ^ 2) < 1000000000001 ^ 2) : sgnP [(a, 2), (2, 15), (S, 2), (1000000000001, -2)] ≤ 0 := by
  have : sgnP [(a, 2), (2, 15), (S, 2), (1000000000001, -2)] < 0 := by
    rw [sgn_lt]
    show a ^ 2 * (2 ^ 15 * (S ^ 2 * (1000000000001 ^ 0 * 1))) < a ^ 0 * (2 ^ 0 * (S ^ 0 * (1000000000001 ^ 2 * 1)))
    simp only [Nat.pow_zero, Nat.one_mul, Nat.mul_one]
    exact h
  omega
theorem ex_four (p a b c d : Nat) (x y z t : Int) : ex p [(a, x), (b, y), (c, z), (d, t)] = ex p [(a, 1)] * x + (ex p [(b, 1)] * y + (ex p [(c, 1)] * z + ex p [(d, 1)] * t)) := by
  rw [← ex_of, ← ex_of, ← ex_of, ← ex_of]
  simp only [ex, Int.add_zero]
theorem fq_no {a : Nat} {t0 t : Int} {R : Rt} (hR : ROk R) (ha : 1 ≤ a) (ha2 : a ≤ 1000000) (h1 : -20000 ≤ t0) (h2 : t0 ≤ 50000) (h3 : -20000 ≤ t) (h4 : t ≤ 50000) {S : Nat} (hS : 1 ≤ S) (hS2 : S ≤ 1000) : PwF (fqL a t0 t R) (fqD R) S 1000000000001 < 0 := by
  have d1 := hR.d1
  have hp := fq_pos hR ha ha2 h1 h2 h3 h4
  have hf := fast_pos h1 h2 h3 h4
  unfold PwF
  rw [if_neg (by omega)]
  have hb : sgnP (scL R.d [(a, 2), (2, 15), (S, 2), (1000000000001, -2)]) ≤ 0 := by
    rw [sgn_scl (by omega)]
    refine lit_sgn a S ?_
    have i1 : a ^ 2 ≤ 1000000 ^ 2 := Nat.pow_le_pow_left ha2 2
    have i2 : S ^ 2 ≤ 1000 ^ 2 := Nat.pow_le_pow_left hS2 2
    exact Nat.lt_of_le_of_lt (Nat.mul_le_mul i1 (Nat.mul_le_mul_left _ i2)) (by decide)
  have hc : sgnP (scL 2 (R.v.two (-(7 * R.d))).zl) ≤ 0 := by rw [sgn_scl (by omega)]; exact hR.up
  have hd : sgnP (scL R.d (fastL t0 t ++ [(2, -1)])) < 0 := by rw [sgn_scl (by omega)]; exact fast_two h1 h2 h3 h4
  have p1 : posN (scL R.d [(a, 2), (2, 15), (S, 2), (1000000000001, -2)]) := posN_scL _ (posN_cons.2 ⟨ha, posN_cons.2 ⟨by show 1 ≤ 2; omega, posN_cons.2 ⟨hS, posN_cons.2 ⟨by show 1 ≤ 1000000000001; omega, posN_nil⟩⟩⟩⟩)
  have p2 : posN (scL 2 (R.v.two (-(7 * R.d))).zl) := posN_scL _ (V6.pos _)
  have p3 : posN (scL R.d (fastL t0 t ++ [(2, -1)])) := posN_scL _ (posN_append.2 ⟨hf, posN_cons.2 ⟨by show 1 ≤ 2; omega, posN_nil⟩⟩)
  have hbc := sgn_le_mul (l := scL R.d [(a, 2), (2, 15), (S, 2), (1000000000001, -2)] ++ scL 2 (R.v.two (-(7 * R.d))).zl) (posN_append.2 ⟨p1, p2⟩) p1 p2 (fun p => ex_append p _ _) hb hc
  refine sgn_lt_mul (posN_pw hp hS (by omega)) p3 (posN_append.2 ⟨p1, p2⟩) (fun p => ?_) hd hbc
  rw [ex_append, ex_append, ex_fq, ex_append, ex_scL, ex_append, ex_scL, ex_four, ex_scL, ex_two, ex_of p S, ex_of p (Int.toNat 1000000000001), ex_of p 2 (-1)]
  rw [show (if 2 = p then -(7 * R.d) else 0) = ex p [(2, 1)] * -(7 * R.d) by rw [ex_single]; split <;> simp, show Int.toNat 1000000000001 = 1000000000001 from rfl]
  unfold fqD
  generalize ex p [(a, 1)] = A
  generalize ex p [(2, 1)] = B
  generalize ex p [(S, 1)] = C
  generalize ex p [(1000000000001, 1)] = E
  generalize ex p R.v.zl = G
  generalize ex p (fastL t0 t) = H
  grind
end Go.Proofs.YtmbcejldifobnaaDoor.Pc
