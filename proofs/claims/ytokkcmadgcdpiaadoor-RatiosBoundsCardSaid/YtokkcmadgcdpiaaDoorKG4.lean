import Derived.Test.YtokkcmadgcdpiaaDoorKG3
namespace Go.Proofs.YtokkcmadgcdpiaaDoor
open Go.RowKit

/-! Power. -/
theorem PwBox.add {w : World} {B bp bd g cap : Nat} {l r : List (Nat × Int)} {d : Int} {wr W1 w5 : World} (h : PwBox w B bp bd g cap l d wr) (hA : Below wr.heap.size wr W1)
    (hown : w5.ownsRow B 63 2 (.slice (some ⟨g, 0, none⟩) (l.length + r.length) cap) (l.length + r.length) (encT l ++ encT r)) (hgr : W1.grownBy w5 (some g)) (hroom : l.length + r.length < cap) (hne : bp ≠ bd) (hbp : B ≤ bp) :
    PwBox w B bp bd g cap (l ++ r) d (w5.setCell ⟨bp, 0, none⟩ (.slice (some ⟨g, 0, none⟩) (l.length + r.length) cap)) := by
  have hr1 : RowT w5 B (.slice (some ⟨g, 0, none⟩) (l ++ r).length cap) (l ++ r) := by
    unfold RowT
    rw [encT_append, List.length_append]
    exact hown
  have hg := hr1.lt g rfl
  have l1 : bp < wr.heap.size := (Array.getElem?_eq_some_iff.1 h.box).1
  have l2 : bd < wr.heap.size := (Array.getElem?_eq_some_iff.1 h.den).1
  have hz := hA.size
  have hbox : w5.heap[bp]? = _ := (hgr.block bp (by omega) (fun e => h.ne1 (Option.some.inj e).symm)).trans ((hA.block _ l1).trans h.box)
  have hden : w5.heap[bd]? = _ := (hgr.block bd (by omega) (fun e => h.ne2 (Option.some.inj e).symm)).trans ((hA.block _ l2).trans h.den)
  have hlen : (l ++ r).length = l.length + r.length := by simp
  have hb5 : Below B w w5 := (h.below.trans (hA.mono h.hB)).grown hgr (Nat.le_trans h.hB hz) (fun k hk => by cases hk; exact hg.1)
  refine ⟨hr1.keep fun k e => setCell_heap (by cases e; exact h.ne1), by rw [hlen]; exact hroom, ?_, (setCell_heap hne.symm).trans hden, h.ne1, h.ne2, hb5.setCell hbp _, ?_⟩
  · rw [hlen]; exact setCell_one hbox
  · have : (w5.setCell ⟨bp, 0, none⟩ (.slice (some ⟨g, 0, none⟩) (l.length + r.length) cap)).heap.size = w5.heap.size := by simp [World.setCell]
    rw [this]
    exact Nat.le_trans (Nat.le_trans h.hB hz) hgr.size
/-- What Power searches. -/
def PwF (l : List (Nat × Int)) (d : Int) (S : Nat) (m : Int) : Int := if m = 0 then 1 else sgnP (l ++ [(S, d)] ++ [(m.toNat, -d)])
set_option maxRecDepth 100000 in
set_option maxHeartbeats 2000000 in
theorem Power_any (A : Option Addr) (capv : Nat) (l : List (Nat × Int)) (d : Int) (S : Nat) (k : Nat) (w : World) (hv : TmC w w.heap.size (.slice A l.length capv) l) (hA : A = none → capv = 0) (hl : validL l) (hd1 : 1 ≤ d) (hd2 : d ≤ 1000000) (hS1 : 1 ≤ S) (hS2 : S ≤ 1000000000000)
    (hs : ∀ m : Int, 1 ≤ m → m ≤ 1000000000001 → SignOk (l ++ [(S, d)] ++ [(m.toNat, -d)]) k) :
    Calls Tryd.prog 17 #[.int .i64 (S : Int), .slice A l.length capv, .int .i64 d] w fun e w' => SrPost (PwF l d S) 0 e ∧ Below w.heap.size w w' := by
  have hex := fun W (h : TmI W W.heap.size (.slice A l.length capv) (intT l)) => examine_any (.slice A l.length capv) (intT l) W h (by simp [intT]; have := hl.1; omega)
  rw [hl.exam] at hex
  have hlen := hl.1
  have HEX := Lib.hid hex
  have HV := Lib.hid hv
  have HS := Lib.hid hs
  have HA := Lib.hid hA
  clear hex hl hs hv hA
  have hwd : wiB d 1 1000000 = true := by unfold wiB; rw [decide_eq_true hd1, decide_eq_true hd2]; rfl
  have hws : wiB (S : Int) 1 1000000000000 = true := by unfold wiB; rw [decide_eq_true (show (1 : Int) ≤ S by omega), decide_eq_true (show (S : Int) ≤ 1000000000000 by omega)]; rfl
  have HWD := Lib.hid hwd
  have HWS := Lib.hid hws
  clear hwd hws
  have hb0 : Below w.heap.size w (w.alloc (.cells #[.int .i64 d] 2)) := (Below.refl _ _).alloc (Nat.le_refl _) _
  have HB0 := Lib.hid hb0
  go_enter Tryd.func17, Tryd.ntmps17
  go_wp2_with fail
  refine (HEX.out _ (HV.out.up hb0).int).mono ?_
  rintro e w1 ⟨he, hb1⟩
  subst he
  have hd1' : w1.heap[w.heap.size]? = some (.cells #[.int .i64 d] 2 (0, 0)) := (hb1.block _ (by simp)).trans (heap_alloc_new w _)
  have c0 : w1.cell? ⟨w.heap.size, 0, none⟩ = some (.int .i64 d) := Go.Joins.cell_of_block hd1' 0
  have hB1 : Below w.heap.size w w1 := HB0.out.trans (hb1.mono (by simp))
  have HB1 := Lib.hid hB1
  have HD1 := Lib.hid hd1'
  clear hb0 hb1 hd1' hB1
  go_wp2_with fail
  refine (within_any d 1 1000000 _).mono ?_
  rintro e w2 ⟨he, hw2⟩
  subst he
  subst hw2
  rw [HWD.out]
  go_wp2_with fail
  refine (within_any (S : Int) 1 1000000000000 _).mono ?_
  rintro e w2 ⟨he, hw2⟩
  subst he
  subst hw2
  rw [HWS.out]
  obtain ⟨cs, hcs, hmk⟩ := mkT0 (l.length + 2) (by omega) w1
  rw [show ((l.length + 2 : Nat) : Int) = (l.length : Int) + 2 by omega] at hmk
  have HCS := Lib.hid hcs
  clear hcs
  have hp0 : PwBox w w.heap.size (w1.heap.size + 1) w.heap.size w1.heap.size (l.length + 2) [] d ((w1.alloc (.cells cs 63)).alloc (.cells #[.slice (some ⟨w1.heap.size, 0, none⟩) 0 (l.length + 2)] 22)) := by
    have hz := HB1.out.size
    have hA : Below w1.heap.size w1 ((w1.alloc (.cells cs 63)).alloc (.cells #[.slice (some ⟨w1.heap.size, 0, none⟩) 0 (l.length + 2)] 22)) := ((Below.refl w1.heap.size w1).alloc (Nat.le_refl _) _).alloc (by simp) _
    have hbx := heap_alloc_new (w1.alloc (.cells cs 63)) (.cells #[.slice (some ⟨w1.heap.size, 0, none⟩) 0 (l.length + 2)] 22)
    rw [World.size_alloc] at hbx
    have hlt : w.heap.size < w1.heap.size := (Array.getElem?_eq_some_iff.1 HD1.out).1
    refine ⟨?_, by simp, hbx, (hA.block _ hlt).trans HD1.out, by omega, by omega, HB1.out.trans (hA.mono hz), by simp; omega⟩
    have h0 := World.ownsRow_made (base := w.heap.size) (e := 63) (size := 2) w1 cs (l.length + 2) hz (by unfold maxLen; omega) HCS.out
    exact h0.alloc _
  have hlt0 : w.heap.size < w1.heap.size := (Array.getElem?_eq_some_iff.1 HD1.out).1
  have HP0 := Lib.hid hp0
  have hown0 := hp0.row
  unfold RowT at hown0
  have HOWN0 := Lib.hid hown0
  have hnews : ∀ ad, A = some ad → ∀ j u, (encT l)[j]? = some u → ((w1.alloc (.cells cs 63)).alloc (.cells #[.slice (some ⟨w1.heap.size, 0, none⟩) 0 (l.length + 2)] 22)).cell? (ad.add j) = some u := by
    intro ad had
    subst had
    obtain ⟨A', cap', e, -, hh⟩ := HV.out.keep hp0.below
    cases e
    by_cases h0 : l = []
    · subst h0; intro j u hu; simp [encT] at hu
    · obtain ⟨g, o2, e, -, hc2⟩ := hh h0
      cases e
      exact news_T hc2
  have HNW := Lib.hid hnews
  have hnone : A = none → l.length = 0 ∧ capv = 0 := fun h => by
    refine ⟨?_, HA.out h⟩
    subst h
    obtain ⟨A', cap', e, -, hh⟩ := HV.out
    cases e
    by_cases h0 : l = []
    · subst h0; rfl
    · obtain ⟨g, o2, e, -⟩ := hh h0
      cases e
  have HNN := Lib.hid hnone
  obtain ⟨i0, hi0, hz0, hz1, hz2⟩ := info_parts Tryd.infoT
  clear hp0 hown0 hnews hnone HB0 HD1 HEX HWD HWS HB1 HCS
  go_wp2_with (first
    | (at_builtin; refine wpList_append_fits_any _ rfl (.tmp 28) (.tmp 29) 22 rfl w.heap.size 63 i0 2 Tryd.underlying22 hi0 hz1 w1.heap.size 0 (l.length + 2) (encT []) rfl HOWN0.out A l.length capv (encT l) rfl (encT_len l) HNN.out HNW.out (one_encT l) (by omega) ?_; intro w5 hown5 hgr5; have hp1 := PwBox.add (r := l) HP0.out (Below.refl _ _) hown5 hgr5 (by simp) (by omega) (by have := HP0.out.hB; omega); have q0 : w5.heap[w1.heap.size + 1]? = _ := (hgr5.block (w1.heap.size + 1) (by simp) (fun e => absurd (Option.some.inj e) (by omega))).trans HP0.out.box; have q1 := Go.Joins.cell_of_block q0 0; have q2 : w5.frozen? ⟨w1.heap.size + 1, 0, none⟩ = false := (by unfold World.frozen?; rw [q0]; rfl); simp only [List.length_nil, Nat.zero_add, List.nil_append] at hp1 ⊢; have k0 := Go.Joins.cell_of_block hp1.box 0; have k1 := Go.Joins.cell_of_block hp1.den 0; have HP1 := Lib.hid hp1; clear q0 hp1)
    | (at_builtin; obtain ⟨W2, hW2⟩ : ∃ W2, W2 = w5.setCell ⟨w1.heap.size + 1, 0, none⟩ (.slice (some ⟨w1.heap.size, 0, none⟩) l.length (l.length + 2)) := ⟨_, rfl⟩; have hp2 := HP1.out; have hsz : w5.heap.size = W2.heap.size := (by rw [hW2, size_setCell']); rw [← hW2] at hp2 ⊢; rw [hsz]; have hownB := hp2.row.up (belA W2 (.cells #[.int .i64 (S : Int), .int .i64 d] 63)); unfold RowT at hownB; refine wpList_append_fits _ rfl (.tmp 31) (.tmp 35) 22 rfl w.heap.size 63 i0 2 Tryd.underlying22 hi0 hz1 w1.heap.size l.length (l.length + 2) (encT l) rfl hownB ⟨W2.heap.size, 0, none⟩ 1 1 (encT [(S, d)]) rfl rfl (World.news_of_block (cs := #[.int .i64 (S : Int), .int .i64 d]) (t := 63) (fr := (0, 0)) (heap_alloc_new W2 _)) (one_encT _) (by omega) ?_; intro w6 hown6 hgr6; have hp3 := PwBox.add (r := [(S, d)]) hp2 (belA W2 (.cells #[.int .i64 (S : Int), .int .i64 d] 63)) hown6 hgr6 (by simp) (by omega) (by have := HP0.out.hB; omega); have hbp : w1.heap.size + 1 < W2.heap.size := (Array.getElem?_eq_some_iff.1 hp2.box).1; have r0 : w6.heap[w1.heap.size + 1]? = _ := (hgr6.block (w1.heap.size + 1) (by simp; omega) (fun e => absurd (Option.some.inj e) (by omega))).trans (((belA W2 (.cells #[.int .i64 (S : Int), .int .i64 d] 63)).block _ hbp).trans hp2.box); have r1 := Go.Joins.cell_of_block r0 0; have r2 : w6.frozen? ⟨w1.heap.size + 1, 0, none⟩ = false := (by unfold World.frozen?; rw [r0]; rfl); have HP3 := Lib.hid hp3; clear hp2 hp3 r0 hW2))
  have hcl : ∀ (m : Int) (W : World), 0 ≤ m → m ≤ 1000000000001 → PwBox w w.heap.size (w1.heap.size + 1) w.heap.size w1.heap.size (l.length + 2) (l ++ [(S, d)]) d W → Calls Tryd.prog 58 #[.int .i64 m, .pointer (some ⟨w1.heap.size + 1, 0, none⟩), .pointer (some ⟨w.heap.size, 0, none⟩)] W fun e W' => e = .returned (.int .i64 (PwF l d S m)) ∧ PwBox w w.heap.size (w1.heap.size + 1) w.heap.size w1.heap.size (l.length + 2) (l ++ [(S, d)]) d W' := fun m W m1 m2 h => by
    by_cases h0 : m = 0
    · subst h0
      exact powerC0 _ _ _ _ _ _ _ _ _ h
    · have e : PwF l d S m = sgnP (l ++ [(S, d)] ++ [(m.toNat, -d)]) := by unfold PwF; rw [if_neg h0]
      rw [e]
      exact powerC _ _ _ _ _ _ _ _ m k W h (by omega) m2 hd1 hd2 (HS.out m (by omega) m2)
  have hsr := search_power (.pointer (some ⟨w1.heap.size + 1, 0, none⟩)) (.pointer (some ⟨w.heap.size, 0, none⟩)) (PwBox w w.heap.size (w1.heap.size + 1) w.heap.size w1.heap.size (l.length + 2) (l ++ [(S, d)]) d) (PwF l d S) 0 _ (by omega) (by omega) (fun W n h => h.drewN n) hcl HP3.out
  have HSR := Lib.hid hsr
  clear hsr hcl k0 k1 r1 r2 HP3 HP1 q1 q2 hown5 hown6 hgr5 hgr6 hownB
  refine HSR.out.mono ?_
  rintro e w7 ⟨hsp, hI⟩
  have HI := Lib.hid hI.below
  clear hI
  rcases hsp with ⟨hc, he⟩ | ⟨hc, m, m1, m2, m3, m4, he⟩
  · have HC := Lib.hid hc
    clear hc
    subst he
    go_wp2
    go_ret3
    exact ⟨.inl ⟨HC.out, rfl⟩, HI.out⟩
  · have HC := Lib.hid hc
    have H3 := Lib.hid m3
    have H4 := Lib.hid m4
    clear hc m3 m4
    subst he
    go_wp2
    go_ret3
    exact ⟨.inr ⟨HC.out, m, m1, m2, H3.out, H4.out, rfl⟩, HI.out⟩
end Go.Proofs.YtokkcmadgcdpiaaDoor
