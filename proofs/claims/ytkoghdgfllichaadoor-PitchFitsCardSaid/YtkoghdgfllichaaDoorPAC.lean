import Derived.Test.YtkoghdgfllichaaDoorKG2
import Derived.Test.YtkoghdgfllichaaDoorKBA
import Derived.Test.YtkoghdgfllichaaDoorPAB
namespace Go.Proofs.YtkoghdgfllichaaDoor
open Go.RowKit

theorem powerC0 (w : World) (B bp bd g cap : Nat) (l : List (Nat × Int)) (d : Int) (W : World) (h : PwBox w B bp bd g cap l d W) :
    Calls Tryd.prog 133 #[.int .i64 0, .pointer (some ⟨bp, 0, none⟩), .pointer (some ⟨bd, 0, none⟩)] W fun e W' => e = .returned (.int .i64 1) ∧ PwBox w B bp bd g cap l d W' := by
  have H := Lib.hid h
  clear h
  go_enter Tryd.func133, Tryd.ntmps133
  go_wp2
  go_ret
  exact ⟨rfl, H.out⟩
set_option maxRecDepth 100000 in
set_option maxHeartbeats 1000000 in
theorem powerC (w : World) (B bp bd g cap : Nat) (l : List (Nat × Int)) (d m : Int) (k : Nat) (W : World) (h : PwBox w B bp bd g cap l d W) (h1 : 1 ≤ m) (h2 : m ≤ 1000000000001) (hd1 : 1 ≤ d) (hd2 : d ≤ 1000000) (hs : SignOk (l ++ [(m.toNat, -d)]) k) :
    Calls Tryd.prog 133 #[.int .i64 m, .pointer (some ⟨bp, 0, none⟩), .pointer (some ⟨bd, 0, none⟩)] W fun e W' => e = .returned (.int .i64 (sgnP (l ++ [(m.toNat, -d)]))) ∧ PwBox w B bp bd g cap l d W' := by
  have c1 : W.cell? ⟨bp, 0, none⟩ = some (.slice (some ⟨g, 0, none⟩) l.length cap) := Go.Joins.cell_of_block h.box 0
  have c2 : W.cell? ⟨bd, 0, none⟩ = some (.int .i64 d) := Go.Joins.cell_of_block h.den 0
  have s1 : IntKind.i64.wrap (-d) = -d := IntWalk.i64_in _ (by omega)
  obtain ⟨N, rfl⟩ := Int.eq_ofNat_of_zero_le (show 0 ≤ m by omega)
  rw [Int.toNat_natCast] at hs ⊢
  have hm0 : ¬ (N : Int) = 0 := by omega
  obtain ⟨X, hX⟩ : ∃ X : Int, -d = X := ⟨_, rfl⟩
  rw [hX] at hs s1 ⊢
  have HSG := Lib.hid fun W' (h' : TmC W' W'.heap.size (.slice (some ⟨g, 0, none⟩) (l ++ [(N, X)]).length cap) (l ++ [(N, X)])) => sign_any _ _ k W' h' hs
  have H := Lib.hid h
  have hrm := h.room
  clear h hs
  have hlen : (l ++ [(N, X)]).length = l.length + 1 := by simp
  rw [hlen] at HSG
  have hown := H.out.row.up ((Below.refl W.heap.size W).alloc (Nat.le_refl _) (.cells #[.int .i64 (N : Int), .int .i64 X] 75))
  obtain ⟨i0, hi0, hz0, hz1, hz2⟩ := info_parts Tryd.infoT
  go_enter Tryd.func133, Tryd.ntmps133
  go_wp2_with (at_builtin; refine wpList_append_fits _ rfl (.tmp 7) (.tmp 12) 69 rfl B 75 i0 2 Tryd.underlying69 hi0 hz1 g l.length cap (encT l) rfl hown ⟨W.heap.size, 0, none⟩ 1 1 (encT [(N, X)]) rfl rfl (World.news_of_block (cs := #[.int .i64 (N : Int), .int .i64 X]) (t := 75) (fr := (0, 0)) (heap_alloc_new W _)) (one_encT _) (by omega) ?_; intro w1 hown1 hgr1)
  have hr1 : RowT w1 B (.slice (some ⟨g, 0, none⟩) (l ++ [(N, X)]).length cap) (l ++ [(N, X)]) := by
    unfold RowT
    rw [encT_append, hlen]
    exact hown1
  have ht1 := hr1.tmc
  rw [hlen] at ht1
  refine (HSG.out w1 ht1).mono ?_
  rintro e w2 ⟨he, hb2⟩
  subst he
  go_wp2
  go_ret
  refine ⟨rfl, PwBox.up ?_ hb2⟩
  have h := H.out
  have hg := hr1.lt g rfl
  have l1 : bp < W.heap.size := (Array.getElem?_eq_some_iff.1 h.box).1
  have l2 : bd < W.heap.size := (Array.getElem?_eq_some_iff.1 h.den).1
  have hA : Below W.heap.size W (W.alloc (.cells #[.int .i64 (N : Int), .int .i64 X] 75)) := (Below.refl W.heap.size W).alloc (Nat.le_refl _) _
  have hz := hA.size
  have ht := hr1.take l.length (by rw [hlen]; omega)
  rw [List.take_left'  rfl] at ht
  refine ⟨ht, h.room, ?_, ?_, h.ne1, h.ne2, (h.below.alloc h.hB _).grown hgr1 (Nat.le_trans h.hB hz) (fun k hk => by cases hk; exact hg.1), ?_⟩
  · exact (hgr1.block bp (by simp; omega) (fun e => h.ne1 (Option.some.inj e).symm)).trans ((hA.block _ l1).trans h.box)
  · exact (hgr1.block bd (by simp; omega) (fun e => h.ne2 (Option.some.inj e).symm)).trans ((hA.block _ l2).trans h.den)
  · exact Nat.le_trans (Nat.le_trans h.hB hz) hgr1.size
end Go.Proofs.YtkoghdgfllichaaDoor
namespace Go.Proofs.YtkoghdgfllichaaDoor
open Go.RowKit

theorem PwBox.add {w : World} {B bp bd g cap : Nat} {l r : List (Nat × Int)} {d : Int} {wr W1 w5 : World} (h : PwBox w B bp bd g cap l d wr) (hA : Below wr.heap.size wr W1)
    (hown : w5.ownsRow B 75 2 (.slice (some ⟨g, 0, none⟩) (l.length + r.length) cap) (l.length + r.length) (encT l ++ encT r)) (hgr : W1.grownBy w5 (some g)) (hroom : l.length + r.length < cap) (hne : bp ≠ bd) (hbp : B ≤ bp) :
    PwBox w B bp bd g cap (l ++ r) d (w5.setCell ⟨bp, 0, none⟩ (.slice (some ⟨g, 0, none⟩) (l.length + r.length) cap)) := by
  have hr1 : RowT w5 B (.slice (some ⟨g, 0, none⟩) (l ++ r).length cap) (l ++ r) := by
    unfold RowT
    rw [encT_append, List.length_append]
    exact hown
  have hg := hr1.lt g rfl
  have l1 : bp < wr.heap.size := (Array.getElem?_eq_some_iff.1 h.box).1
  have l2 : bd < wr.heap.size := (Array.getElem?_eq_some_iff.1 h.den).1
  have hz := hA.size
  have hbox : w5.heap[bp]? = _ := (hgr.block bp (by omega) (fun e => h.ne1 (Option.some.inj e).symm)).trans ((hA.block _ l1).trans h.box)
  have hden : w5.heap[bd]? = _ := (hgr.block bd (by omega) (fun e => h.ne2 (Option.some.inj e).symm)).trans ((hA.block _ l2).trans h.den)
  have hlen : (l ++ r).length = l.length + r.length := by simp
  have hb5 : Below B w w5 := (h.below.trans (hA.mono h.hB)).grown hgr (Nat.le_trans h.hB hz) (fun k hk => by cases hk; exact hg.1)
  refine ⟨hr1.keep fun k e => setCell_heap (by cases e; exact h.ne1), by rw [hlen]; exact hroom, ?_, (setCell_heap hne.symm).trans hden, h.ne1, h.ne2, hb5.setCell hbp _, ?_⟩
  · rw [hlen]; exact setCell_one hbox
  · have : (w5.setCell ⟨bp, 0, none⟩ (.slice (some ⟨g, 0, none⟩) (l.length + r.length) cap)).heap.size = w5.heap.size := by simp [World.setCell]
    rw [this]
    exact Nat.le_trans (Nat.le_trans h.hB hz) hgr.size
/-- What Power searches. -/
def PwF (l : List (Nat × Int)) (d : Int) (S : Nat) (m : Int) : Int := if m = 0 then 1 else sgnP (l ++ [(S, d)] ++ [(m.toNat, -d)])
set_option maxRecDepth 100000 in
set_option maxHeartbeats 2000000 in
theorem Power_any (A : Option Addr) (capv : Nat) (l : List (Nat × Int)) (d : Int) (S : Nat) (k : Nat) (w : World) (hv : TmC w w.heap.size (.slice A l.length capv) l) (hA : A = none → capv = 0) (hl : validL l) (hd1 : 1 ≤ d) (hd2 : d ≤ 1000000) (hS1 : 1 ≤ S) (hS2 : S ≤ 1000000000000)
    (hs : ∀ m : Int, 1 ≤ m → m ≤ 1000000000001 → SignOk (l ++ [(S, d)] ++ [(m.toNat, -d)]) k) :
    Calls Tryd.prog 105 #[.int .i64 (S : Int), .slice A l.length capv, .int .i64 d] w fun e w' => SrPost (PwF l d S) 0 e ∧ Below w.heap.size w w' := by
  have hex := fun W (h : TmI W W.heap.size (.slice A l.length capv) (intT l)) => examine_any (.slice A l.length capv) (intT l) W h (by simp [intT]; have := hl.1; omega)
  rw [hl.exam] at hex
  have hlen := hl.1
  have HEX := Lib.hid hex
  have HV := Lib.hid hv
  have HS := Lib.hid hs
  have HA := Lib.hid hA
  clear hex hl hs hv hA
  have hwd : wiB d 1 1000000 = true := by unfold wiB; rw [decide_eq_true hd1, decide_eq_true hd2]; rfl
  have hws : wiB (S : Int) 1 1000000000000 = true := by unfold wiB; rw [decide_eq_true (show (1 : Int) ≤ S by omega), decide_eq_true (show (S : Int) ≤ 1000000000000 by omega)]; rfl
  have HWD := Lib.hid hwd
  have HWS := Lib.hid hws
  clear hwd hws
  have hb0 : Below w.heap.size w (w.alloc (.cells #[.int .i64 d] 2)) := (Below.refl _ _).alloc (Nat.le_refl _) _
  have HB0 := Lib.hid hb0
  go_enter Tryd.func105, Tryd.ntmps105
  go_wp2_with fail
  refine (HEX.out _ (HV.out.up hb0).int).mono ?_
  rintro e w1 ⟨he, hb1⟩
  subst he
  have hd1' : w1.heap[w.heap.size]? = some (.cells #[.int .i64 d] 2 (0, 0)) := (hb1.block _ (by simp)).trans (heap_alloc_new w _)
  have c0 : w1.cell? ⟨w.heap.size, 0, none⟩ = some (.int .i64 d) := Go.Joins.cell_of_block hd1' 0
  have hB1 : Below w.heap.size w w1 := HB0.out.trans (hb1.mono (by simp))
  have HB1 := Lib.hid hB1
  have HD1 := Lib.hid hd1'
  clear hb0 hb1 hd1' hB1
  go_wp2_with fail
  refine (within_any d 1 1000000 _).mono ?_
  rintro e w2 ⟨he, hw2⟩
  subst he
  subst hw2
  rw [HWD.out]
  go_wp2_with fail
  refine (within_any (S : Int) 1 1000000000000 _).mono ?_
  rintro e w2 ⟨he, hw2⟩
  subst he
  subst hw2
  rw [HWS.out]
  obtain ⟨cs, hcs, hmk⟩ := mkT0 (l.length + 2) (by omega) w1
  rw [show ((l.length + 2 : Nat) : Int) = (l.length : Int) + 2 by omega] at hmk
  have HCS := Lib.hid hcs
  clear hcs
  have hp0 : PwBox w w.heap.size (w1.heap.size + 1) w.heap.size w1.heap.size (l.length + 2) [] d ((w1.alloc (.cells cs 75)).alloc (.cells #[.slice (some ⟨w1.heap.size, 0, none⟩) 0 (l.length + 2)] 69)) := by
    have hz := HB1.out.size
    have hA : Below w1.heap.size w1 ((w1.alloc (.cells cs 75)).alloc (.cells #[.slice (some ⟨w1.heap.size, 0, none⟩) 0 (l.length + 2)] 69)) := ((Below.refl w1.heap.size w1).alloc (Nat.le_refl _) _).alloc (by simp) _
    have hbx := heap_alloc_new (w1.alloc (.cells cs 75)) (.cells #[.slice (some ⟨w1.heap.size, 0, none⟩) 0 (l.length + 2)] 69)
    rw [World.size_alloc] at hbx
    have hlt : w.heap.size < w1.heap.size := (Array.getElem?_eq_some_iff.1 HD1.out).1
    refine ⟨?_, by simp, hbx, (hA.block _ hlt).trans HD1.out, by omega, by omega, HB1.out.trans (hA.mono hz), by simp; omega⟩
    have h0 := World.ownsRow_made (base := w.heap.size) (e := 75) (size := 2) w1 cs (l.length + 2) hz (by unfold maxLen; omega) HCS.out
    exact h0.alloc _
  have hlt0 : w.heap.size < w1.heap.size := (Array.getElem?_eq_some_iff.1 HD1.out).1
  have HP0 := Lib.hid hp0
  have hown0 := hp0.row
  unfold RowT at hown0
  have HOWN0 := Lib.hid hown0
  have hnews : ∀ ad, A = some ad → ∀ j u, (encT l)[j]? = some u → ((w1.alloc (.cells cs 75)).alloc (.cells #[.slice (some ⟨w1.heap.size, 0, none⟩) 0 (l.length + 2)] 69)).cell? (ad.add j) = some u := by
    intro ad had
    subst had
    obtain ⟨A', cap', e, -, hh⟩ := HV.out.keep hp0.below
    cases e
    by_cases h0 : l = []
    · subst h0; intro j u hu; simp [encT] at hu
    · obtain ⟨g, o2, e, -, hc2⟩ := hh h0
      cases e
      exact news_T hc2
  have HNW := Lib.hid hnews
  have hnone : A = none → l.length = 0 ∧ capv = 0 := fun h => by
    refine ⟨?_, HA.out h⟩
    subst h
    obtain ⟨A', cap', e, -, hh⟩ := HV.out
    cases e
    by_cases h0 : l = []
    · subst h0; rfl
    · obtain ⟨g, o2, e, -⟩ := hh h0
      cases e
  have HNN := Lib.hid hnone
  obtain ⟨i0, hi0, hz0, hz1, hz2⟩ := info_parts Tryd.infoT
  clear hp0 hown0 hnews hnone HB0 HD1 HEX HWD HWS HB1 HCS
  go_wp2_with (first
    | (at_builtin; refine wpList_append_fits_any _ rfl (.tmp 28) (.tmp 29) 69 rfl w.heap.size 75 i0 2 Tryd.underlying69 hi0 hz1 w1.heap.size 0 (l.length + 2) (encT []) rfl HOWN0.out A l.length capv (encT l) rfl (encT_len l) HNN.out HNW.out (one_encT l) (by omega) ?_; intro w5 hown5 hgr5; have hp1 := PwBox.add (r := l) HP0.out (Below.refl _ _) hown5 hgr5 (by simp) (by omega) (by have := HP0.out.hB; omega); have q0 : w5.heap[w1.heap.size + 1]? = _ := (hgr5.block (w1.heap.size + 1) (by simp) (fun e => absurd (Option.some.inj e) (by omega))).trans HP0.out.box; have q1 := Go.Joins.cell_of_block q0 0; have q2 : w5.frozen? ⟨w1.heap.size + 1, 0, none⟩ = false := (by unfold World.frozen?; rw [q0]; rfl); simp only [List.length_nil, Nat.zero_add, List.nil_append] at hp1 ⊢; have k0 := Go.Joins.cell_of_block hp1.box 0; have k1 := Go.Joins.cell_of_block hp1.den 0; have HP1 := Lib.hid hp1; clear q0 hp1)
    | (at_builtin; obtain ⟨W2, hW2⟩ : ∃ W2, W2 = w5.setCell ⟨w1.heap.size + 1, 0, none⟩ (.slice (some ⟨w1.heap.size, 0, none⟩) l.length (l.length + 2)) := ⟨_, rfl⟩; have hp2 := HP1.out; have hsz : w5.heap.size = W2.heap.size := (by rw [hW2, size_setCell']); rw [← hW2] at hp2 ⊢; rw [hsz]; have hownB := hp2.row.up (belA W2 (.cells #[.int .i64 (S : Int), .int .i64 d] 75)); unfold RowT at hownB; refine wpList_append_fits _ rfl (.tmp 31) (.tmp 35) 69 rfl w.heap.size 75 i0 2 Tryd.underlying69 hi0 hz1 w1.heap.size l.length (l.length + 2) (encT l) rfl hownB ⟨W2.heap.size, 0, none⟩ 1 1 (encT [(S, d)]) rfl rfl (World.news_of_block (cs := #[.int .i64 (S : Int), .int .i64 d]) (t := 75) (fr := (0, 0)) (heap_alloc_new W2 _)) (one_encT _) (by omega) ?_; intro w6 hown6 hgr6; have hp3 := PwBox.add (r := [(S, d)]) hp2 (belA W2 (.cells #[.int .i64 (S : Int), .int .i64 d] 75)) hown6 hgr6 (by simp) (by omega) (by have := HP0.out.hB; omega); have hbp : w1.heap.size + 1 < W2.heap.size := (Array.getElem?_eq_some_iff.1 hp2.box).1; have r0 : w6.heap[w1.heap.size + 1]? = _ := (hgr6.block (w1.heap.size + 1) (by simp; omega) (fun e => absurd (Option.some.inj e) (by omega))).trans (((belA W2 (.cells #[.int .i64 (S : Int), .int .i64 d] 75)).block _ hbp).trans hp2.box); have r1 := Go.Joins.cell_of_block r0 0; have r2 : w6.frozen? ⟨w1.heap.size + 1, 0, none⟩ = false := (by unfold World.frozen?; rw [r0]; rfl); have HP3 := Lib.hid hp3; clear hp2 hp3 r0 hW2))
  have hcl : ∀ (m : Int) (W : World), 0 ≤ m → m ≤ 1000000000001 → PwBox w w.heap.size (w1.heap.size + 1) w.heap.size w1.heap.size (l.length + 2) (l ++ [(S, d)]) d W → Calls Tryd.prog 133 #[.int .i64 m, .pointer (some ⟨w1.heap.size + 1, 0, none⟩), .pointer (some ⟨w.heap.size, 0, none⟩)] W fun e W' => e = .returned (.int .i64 (PwF l d S m)) ∧ PwBox w w.heap.size (w1.heap.size + 1) w.heap.size w1.heap.size (l.length + 2) (l ++ [(S, d)]) d W' := fun m W m1 m2 h => by
    by_cases h0 : m = 0
    · subst h0
      exact powerC0 _ _ _ _ _ _ _ _ _ h
    · have e : PwF l d S m = sgnP (l ++ [(S, d)] ++ [(m.toNat, -d)]) := by unfold PwF; rw [if_neg h0]
      rw [e]
      exact powerC _ _ _ _ _ _ _ _ m k W h (by omega) m2 hd1 hd2 (HS.out m (by omega) m2)
  have hsr := search_power (.pointer (some ⟨w1.heap.size + 1, 0, none⟩)) (.pointer (some ⟨w.heap.size, 0, none⟩)) (PwBox w w.heap.size (w1.heap.size + 1) w.heap.size w1.heap.size (l.length + 2) (l ++ [(S, d)]) d) (PwF l d S) 0 _ (by omega) (by omega) (fun W n h => h.drewN n) hcl HP3.out
  have HSR := Lib.hid hsr
  clear hsr hcl k0 k1 r1 r2 HP3 HP1 q1 q2 hown5 hown6 hgr5 hgr6 hownB
  refine HSR.out.mono ?_
  rintro e w7 ⟨hsp, hI⟩
  have HI := Lib.hid hI.below
  clear hI
  rcases hsp with ⟨hc, he⟩ | ⟨hc, m, m1, m2, m3, m4, he⟩
  · have HC := Lib.hid hc
    clear hc
    subst he
    go_wp2
    go_ret3
    exact ⟨.inl ⟨HC.out, rfl⟩, HI.out⟩
  · have HC := Lib.hid hc
    have H3 := Lib.hid m3
    have H4 := Lib.hid m4
    clear hc m3 m4
    subst he
    go_wp2
    go_ret3
    exact ⟨.inr ⟨HC.out, m, m1, m2, H3.out, H4.out, rfl⟩, HI.out⟩
end Go.Proofs.YtkoghdgfllichaaDoor
namespace Go.Proofs.YtkoghdgfllichaaDoor.Pc
open Go.RowKit Tp

/-! span, millicents. -/
theorem pow_ok {l : List (Nat × Int)} (h : validL l) {d : Int} {S : Nat} (hd1 : 1 ≤ d) (hd2 : d ≤ 1000000) (hS1 : 1 ≤ S) (hS2 : S ≤ 1000000000000) {m : Int} (h1 : 1 ≤ m) (h2 : m ≤ 1000000000001) : SignOk (l ++ [(S, d)] ++ [(m.toNat, -d)]) 34 := by
  obtain ⟨hl, hx⟩ := h
  have hall : ∀ x ∈ l ++ [(S, d)] ++ [(m.toNat, -d)], 1 ≤ x.1 ∧ x.1 ≤ 1000000000001 ∧ x.2.natAbs ≤ 1000000000 := fun x hm => by
    simp only [List.mem_append, List.mem_singleton] at hm
    rcases hm with (hm | rfl) | rfl
    · have := hx x hm; omega
    · simp only; omega
    · simp only; omega
  have hlen : (l ++ [(S, d)] ++ [(m.toNat, -d)]).length ≤ 18 := by simp; omega
  generalize l ++ [(S, d)] ++ [(m.toNat, -d)] = L at *
  obtain ⟨s1, s2⟩ := sums_le (N := 1000000000001) (e := 1000000000) (w := 39) (by decide) hall
  have h3 : nA L ≤ 18000000000 := Nat.le_trans s1 (Nat.le_trans (Nat.mul_le_mul_right _ hlen) (by decide))
  have h4 : wA L ≤ 702000000000 := Nat.le_trans s2 (Nat.le_trans (Nat.mul_le_mul_right _ hlen) (by decide))
  refine SignOk.of (fun x hm => ⟨(hall x hm).1, by have := (hall x hm).2.1; omega⟩) (by omega) (by omega) (by omega) (by omega) ?_
  have : (64 : Nat) * 2 ^ 34 - 2 = 1099511627774 := by decide
  omega
theorem floor_ok {l : List (Nat × Int)} (hl : l.length ≤ 16) (hx : ∀ x ∈ l, 1 ≤ x.1 ∧ x.1 ≤ 1000000000000 ∧ x.2.natAbs ≤ 200000) {d : Int} (hd1 : 1 ≤ d) (hd2 : d ≤ 100000) {m : Int} (h1 : -1000000000000 ≤ m) (h2 : m ≤ 1000000000001) : SignOk (scL 1200000 l ++ [(2, -(m * d))]) 42 := by
  have hall : ∀ x ∈ scL 1200000 l, 1 ≤ x.1 ∧ x.1 ≤ 1000000000000 ∧ x.2.natAbs ≤ 240000000000 := fun x hm => by
    obtain ⟨y, hy, rfl⟩ := List.mem_map.1 hm
    have := hx y hy
    simp only
    omega
  have hlen : (scL 1200000 l).length ≤ 16 := by rw [scL_len]; exact hl
  obtain ⟨s1, s2⟩ := sums_le (N := 1000000000000) (e := 240000000000) (w := 39) (by decide) hall
  have h3 : nA (scL 1200000 l) ≤ 3840000000000 := Nat.le_trans s1 (Nat.le_trans (Nat.mul_le_mul_right _ hlen) (by decide))
  have h4 : wA (scL 1200000 l) ≤ 149760000000000 := Nat.le_trans s2 (Nat.le_trans (Nat.mul_le_mul_right _ hlen) (by decide))
  have k1 := Int.mul_le_mul_of_nonneg_right h1 (show (0 : Int) ≤ d by omega)
  have k2 := Int.mul_le_mul_of_nonneg_right h2 (show (0 : Int) ≤ d by omega)
  have h5 : (-(m * d)).natAbs ≤ 100000000000100000 := by omega
  have hlog : Nat.log2 2 = 1 := by decide
  refine SignOk.snoc (fun x hm => ⟨(hall x hm).1, by have := (hall x hm).2.1; omega⟩) (by omega) (by omega) (by omega) (by rw [hlog]; omega) (by omega) (by omega) ?_
  have : (64 : Nat) * 2 ^ 42 - 2 = 281474976710654 := by decide
  omega
theorem szIv (a b : Int) : (Tryd.prog.info? 55).map (·.size) = some ([.int .i64 a, .int .i64 b] : List Value).length := by show _ = some 2; kernel_rfl
theorem load_iv {w : World} {g : Nat} {a b : Int} (h0 : w.cell? ⟨g, 0, none⟩ = some (.int .i64 a)) (h1 : w.cell? ⟨g, 1, none⟩ = some (.int .i64 b)) : (loadVar 55 ⟨g, 0, none⟩).run Tryd.prog w = .ok (.agg #[.int .i64 a, .int .i64 b]) w :=
  run_loadVar_mid w g 0 55 [.int .i64 a, .int .i64 b] _ (fun j u hu => by
    match j, hu with
    | 0, hu => cases hu; exact h0
    | 1, hu => cases hu; exact h1) Tryd.underlying55 rfl (szIv a b)
/-- The span of a root: the floor, and the floor of the same or one more. -/
def SpanIs (F : Int → Int) (m n : Int) : Prop := 0 ≤ m ∧ m ≤ 1000000000000 ∧ 0 ≤ F m ∧ F (m + 1) < 0 ∧ ((F m = 0 ∧ n = m) ∨ (F m ≠ 0 ∧ n = m + 1))
set_option maxRecDepth 100000 in
set_option maxHeartbeats 2000000 in
theorem span_any (A : Option Addr) (capv : Nat) (l : List (Nat × Int)) (d : Int) (S : Nat) (w : World) (hv : TmC w w.heap.size (.slice A l.length capv) l) (hA : A = none → capv = 0) (hl : validL l) (hd1 : 1 ≤ d) (hd2 : d ≤ 1000000) (hS1 : 1 ≤ S) (hS2 : S ≤ 1000000000000) (hno : PwF l d S 1000000000001 < 0) :
    Calls Tryd.prog 66 #[.int .i64 (S : Int), .int .i64 d, .slice A l.length capv] w fun e w' => (∃ m n, e = .returned (.agg #[.int .i64 m, .int .i64 n]) ∧ SpanIs (PwF l d S) m n) ∧ Below w.heap.size w w' := by
  have hpw := fun W (h : TmC W W.heap.size (.slice A l.length capv) l) => Power_any A capv l d S 34 W h hA hl hd1 hd2 hS1 hS2 (fun m h1 h2 => pow_ok hl hd1 hd2 hS1 hS2 h1 h2)
  have h00 : PwF l d S 0 = 1 := if_pos rfl
  have HPW := Lib.hid hpw
  have HV := Lib.hid hv
  have HNO := Lib.hid hno
  have H00 := Lib.hid h00
  have hb0 := belB w (.cells #[.int .i64 0, .int .i64 0] 55)
  have HB0 := Lib.hid hb0
  have hr0 := RowV.of_alloc w 55 [.int .i64 0, .int .i64 0]
  have HR0 := Lib.hid hr0
  clear hpw hv hno h00 hb0 hr0 hl hA
  generalize PwF l d S = F at *
  go_enter Tryd.func66, Tryd.ntmps66
  go_wp2_with fail
  refine (HPW.out _ (HV.out.up HB0.out)).mono ?_
  rintro e w1 ⟨hsr, hb1⟩
  have hr1 := HR0.out.up hb1
  have hbw := HB0.out.trans (hb1.mono HB0.out.size)
  have c0 := RowV.c0 hr1
  have c1 := RowV.c1 hr1
  have z0 := RowV.z (i := 0) hr1
  have z1 := RowV.z (i := 1) hr1
  have BW := Lib.hid hbw
  rcases hsr with ⟨hbad, -⟩ | ⟨-, m, hm0, hm1, hm2, hm3, he⟩
  · exfalso
    have h1 := HNO.out
    have h2 := H00.out
    omega
  · subst he
    have hm4 : IntKind.i64.wrap (m + 1) = m + 1 := IntWalk.i64_in _ (by omega)
    clear hr1 hbw hb1 HPW HV HNO H00
    by_cases hz : F m = 0
    · have hb : (F m == 0) = true := by simp [hz]
      rw [hb]
      clear hb
      go_wp2
      refine bodyPost_ret (v := .agg #[.int .i64 m, .int .i64 m]) (results_one rfl rfl (load_iv ?_ ?_)) rfl ⟨⟨m, m, rfl, hm0, hm1, hm2, hm3, .inl ⟨hz, rfl⟩⟩, (BW.out.setCell (by show w.heap.size ≤ w.heap.size; omega) _).setCell (by show w.heap.size ≤ w.heap.size; omega) _⟩
      · rw [World.cell?_setCell_other _ _ _ _ (by simp), World.cell?_setCell_same _ _ _ c0]
      · exact World.cell?_setCell_same _ _ _ ((World.cell?_setCell_other _ _ _ _ (by simp)).trans c1)
    · have hb : (F m == 0) = false := by simp [hz]
      rw [hb]
      clear hb
      go_wp2
      refine bodyPost_ret (v := .agg #[.int .i64 m, .int .i64 (m + 1)]) (results_one rfl rfl (load_iv ?_ ?_)) rfl ⟨⟨m, m + 1, rfl, hm0, hm1, hm2, hm3, .inr ⟨hz, rfl⟩⟩, (BW.out.setCell (by show w.heap.size ≤ w.heap.size; omega) _).setCell (by show w.heap.size ≤ w.heap.size; omega) _⟩
      · rw [World.cell?_setCell_other _ _ _ _ (by simp), World.cell?_setCell_same _ _ _ c0]
      · exact World.cell?_setCell_same _ _ _ ((World.cell?_setCell_other _ _ _ _ (by simp)).trans c1)
/-- The floor of millicents. -/
def CtF (l : List (Nat × Int)) (d : Int) (m : Int) : Int := sgnP (scL 1200000 l ++ [(2, -(m * d))])
set_option maxRecDepth 100000 in
set_option maxHeartbeats 2000000 in
theorem millicents_any (v : Value) (l : List (Nat × Int)) (d : Int) (w : World) (hv : TmC w w.heap.size v l) (hl : l.length ≤ 16) (hx : ∀ x ∈ l, 1 ≤ x.1 ∧ x.1 ≤ 1000000000000 ∧ x.2.natAbs ≤ 200000) (hd1 : 1 ≤ d) (hd2 : d ≤ 100000) :
    Calls Tryd.prog 64 #[.int .i64 d, v] w fun e w' => (∃ m, e = .returned (.int .i64 m) ∧ (((CtF l d (-1000000000000) < 0 ∨ 0 ≤ CtF l d 1000000000001) ∧ m = 0) ∨ (-1000000000000 ≤ m ∧ m ≤ 1000000000000 ∧ 0 ≤ CtF l d m ∧ CtF l d (m + 1) < 0))) ∧ Below w.heap.size w w' := by
  have hvl : validL l := ⟨hl, fun x hm => by have := hx x hm; omega⟩
  have hfl := fun W (h : TmC W W.heap.size v l) => Floor_any v l d 1200000 42 W h hvl hd1 (by omega) (by omega) (by omega) (fun m h1 h2 => floor_ok hl hx hd1 hd2 h1 h2)
  have HFL := Lib.hid hfl
  have HV := Lib.hid hv
  obtain ⟨A, cap, rfl, -, -⟩ := id hv
  clear hfl hv hx hvl
  go_enter Tryd.func64, Tryd.ntmps64
  go_wp2_with fail
  refine (HFL.out _ HV.out).mono ?_
  rintro e w1 ⟨hsr, hb1⟩
  rcases hsr with ⟨hbad, he⟩ | ⟨-, m, hm0, hm1, hm2, hm3, he⟩
  · subst he
    go_wp2
    go_ret
    exact ⟨⟨0, rfl, .inl ⟨hbad, rfl⟩⟩, hb1⟩
  · subst he
    go_wp2
    go_ret
    exact ⟨⟨m, rfl, .inr ⟨hm0, hm1, hm2, hm3⟩⟩, hb1⟩
end Go.Proofs.YtkoghdgfllichaaDoor.Pc
