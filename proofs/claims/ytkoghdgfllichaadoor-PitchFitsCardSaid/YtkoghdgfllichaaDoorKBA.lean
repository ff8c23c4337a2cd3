import Derived.Test.YtkoghdgfllichaaDoorKA9
import Derived.OwnWalk
import Derived.Test.YtkoghdgfllichaaDoorRGA
namespace Go.Proofs.YtkoghdgfllichaaDoor
open Go.RowKit

theorem RowT.tmc {w : World} {B : Nat} {v : Value} {l : List (Nat × Int)} (h : RowT w B v l) : TmC w w.heap.size v l := by
  obtain ⟨A, cap, rfl, hc, -, hf⟩ := h.form
  refine ⟨A, cap, rfl, hc, fun hne => ?_⟩
  rcases hf with ⟨-, h0, -⟩ | ⟨g, rfl, -, hg, hcell⟩
  · exact absurd (List.eq_nil_of_length_eq_zero h0) hne
  · refine ⟨g, 0, rfl, hg, fun i x hx => ?_⟩
    rw [Nat.zero_add]
    exact hcell i x hx
structure PwBox (w : World) (B bp bd g cap : Nat) (l : List (Nat × Int)) (d : Int) (W : World) : Prop where
  row : RowT W B (.slice (some ⟨g, 0, none⟩) l.length cap) l
  room : l.length < cap
  box : W.heap[bp]? = some (.cells #[.slice (some ⟨g, 0, none⟩) l.length cap] 69 (0, 0))
  den : W.heap[bd]? = some (.cells #[.int .i64 d] 2 (0, 0))
  ne1 : g ≠ bp
  ne2 : g ≠ bd
  below : Below B w W
  hB : B ≤ W.heap.size
theorem PwBox.up {w : World} {B bp bd g cap : Nat} {l : List (Nat × Int)} {d : Int} {W W' : World} (h : PwBox w B bp bd g cap l d W) (hb : Below W.heap.size W W') : PwBox w B bp bd g cap l d W' := by
  have l1 : bp < W.heap.size := (Array.getElem?_eq_some_iff.1 h.box).1
  have l2 : bd < W.heap.size := (Array.getElem?_eq_some_iff.1 h.den).1
  exact ⟨h.row.up hb, h.room, (hb.block _ l1).trans h.box, (hb.block _ l2).trans h.den, h.ne1, h.ne2, h.below.trans (hb.mono h.hB), Nat.le_trans h.hB hb.size⟩
theorem PwBox.drewN {w : World} {B bp bd g cap : Nat} {l : List (Nat × Int)} {d : Int} {W : World} (h : PwBox w B bp bd g cap l d W) (n : Nat) : PwBox w B bp bd g cap l d (W.drewN n) := h.up (Drawn.below ⟨n, rfl⟩)
set_option maxRecDepth 100000 in
set_option maxHeartbeats 1000000 in
theorem floorC (w : World) (B bp bd g cap : Nat) (l : List (Nat × Int)) (d m : Int) (k : Nat) (W : World) (h : PwBox w B bp bd g cap l d W) (h1 : -1000000000001 ≤ m) (h2 : m ≤ 1000000000001) (hd1 : 1 ≤ d) (hd2 : d ≤ 1000000) (hs : SignOk (l ++ [(2, -(m * d))]) k) :
    Calls Tryd.prog 79 #[.int .i64 m, .pointer (some ⟨bp, 0, none⟩), .pointer (some ⟨bd, 0, none⟩)] W fun e W' => e = .returned (.int .i64 (sgnP (l ++ [(2, -(m * d))]))) ∧ PwBox w B bp bd g cap l d W' := by
  have c1 : W.cell? ⟨bp, 0, none⟩ = some (.slice (some ⟨g, 0, none⟩) l.length cap) := Go.Joins.cell_of_block h.box 0
  have c2 : W.cell? ⟨bd, 0, none⟩ = some (.int .i64 d) := Go.Joins.cell_of_block h.den 0
  obtain ⟨X, hX⟩ : ∃ X : Int, -m * d = X := ⟨_, rfl⟩
  have hX2 : -(m * d) = X := by rw [← hX, Int.neg_mul]
  have hXb : -1000000000001000000 ≤ X ∧ X ≤ 1000000000001000000 := by
    rw [← hX]
    have a1 := Int.mul_le_mul_of_nonneg_right (show -m ≤ 1000000000001 by omega) (show 0 ≤ d by omega)
    have a2 := Int.mul_le_mul_of_nonneg_right (show -1000000000001 ≤ -m by omega) (show 0 ≤ d by omega)
    omega
  have s1 : IntKind.i64.wrap X = X := IntWalk.i64_in _ (by omega)
  rw [hX2] at hs ⊢
  have HSG := Lib.hid fun W' (h' : TmC W' W'.heap.size (.slice (some ⟨g, 0, none⟩) (l ++ [(2, X)]).length cap) (l ++ [(2, X)])) => sign_any _ _ k W' h' hs
  have H := Lib.hid h
  have hrm := h.room
  clear h hs hX2
  have hlen : (l ++ [(2, X)]).length = l.length + 1 := by simp
  rw [hlen] at HSG
  have hown := H.out.row.up ((Below.refl W.heap.size W).alloc (Nat.le_refl _) (.cells #[.int .i64 2, .int .i64 X] 75))
  obtain ⟨i0, hi0, hz0, hz1, hz2⟩ := info_parts Tryd.infoT
  go_enter Tryd.func79, Tryd.ntmps79
  go_wp2_with (at_builtin; refine wpList_append_fits _ rfl (.tmp 5) (.tmp 11) 69 rfl B 75 i0 2 Tryd.underlying69 hi0 hz1 g l.length cap (encT l) rfl hown ⟨W.heap.size, 0, none⟩ 1 1 (encT [(2, X)]) rfl rfl (World.news_of_block (cs := #[.int .i64 2, .int .i64 X]) (t := 75) (fr := (0, 0)) (heap_alloc_new W _)) (one_encT _) (by omega) ?_; intro w1 hown1 hgr1)
  have hr1 : RowT w1 B (.slice (some ⟨g, 0, none⟩) (l ++ [(2, X)]).length cap) (l ++ [(2, X)]) := by
    unfold RowT
    rw [encT_append, hlen]
    exact hown1
  have ht1 := hr1.tmc
  rw [hlen] at ht1
  refine (HSG.out w1 ht1).mono ?_
  rintro e w2 ⟨he, hb2⟩
  subst he
  go_wp2
  go_ret
  refine ⟨rfl, PwBox.up ?_ hb2⟩
  have h := H.out
  have hg := hr1.lt g rfl
  have l1 : bp < W.heap.size := (Array.getElem?_eq_some_iff.1 h.box).1
  have l2 : bd < W.heap.size := (Array.getElem?_eq_some_iff.1 h.den).1
  have hA : Below W.heap.size W (W.alloc (.cells #[.int .i64 2, .int .i64 X] 75)) := (Below.refl W.heap.size W).alloc (Nat.le_refl _) _
  have hz := hA.size
  have ht := hr1.take l.length (by rw [hlen]; omega)
  rw [List.take_left'  rfl] at ht
  refine ⟨ht, h.room, ?_, ?_, h.ne1, h.ne2, (h.below.alloc h.hB _).grown hgr1 (Nat.le_trans h.hB hz) (fun k hk => by cases hk; exact hg.1), ?_⟩
  · exact (hgr1.block bp (by simp; omega) (fun e => h.ne1 (Option.some.inj e).symm)).trans ((hA.block _ l1).trans h.box)
  · exact (hgr1.block bd (by simp; omega) (fun e => h.ne2 (Option.some.inj e).symm)).trans ((hA.block _ l2).trans h.den)
  · exact Nat.le_trans (Nat.le_trans h.hB hz) hgr1.size
end Go.Proofs.YtkoghdgfllichaaDoor
namespace Go.Proofs.YtkoghdgfllichaaDoor
open Go.RowKit

def intT (l : List (Nat × Int)) : List (Int × Int) := l.map fun x => ((x.1 : Int), x.2)
theorem TmC.int {w : World} {B : Nat} {v : Value} {l : List (Nat × Int)} (h : TmC w B v l) : TmI w B v (intT l) := by
  obtain ⟨A, cap, e, hc, h⟩ := h
  have hl : (intT l).length = l.length := by simp [intT]
  refine ⟨A, cap, by rw [hl]; exact e, by rw [hl]; exact hc, fun hne => ?_⟩
  obtain ⟨g, o, e2, hg, hcell⟩ := h (by intro e; rw [e] at hne; exact hne rfl)
  refine ⟨g, o, e2, hg, fun i x hi => ?_⟩
  simp only [intT, List.getElem?_map, Option.map_eq_some_iff] at hi
  obtain ⟨y, hy, rfl⟩ := hi
  exact hcell i y hy
theorem validL.exam {l : List (Nat × Int)} (h : validL l) : examE (intT l) = 0 := by
  unfold examE
  have hl : (intT l).length = l.length := by simp [intT]
  rw [hl, if_neg (by have := h.1; omega), if_pos]
  refine List.all_eq_true.2 fun x hx => ?_
  simp only [intT, List.mem_map] at hx
  obtain ⟨y, hy, rfl⟩ := hx
  have := h.2 y hy
  simp only [termOk, wiB, Bool.and_eq_true, decide_eq_true_eq]
  omega
theorem scL_len (s : Int) (l : List (Nat × Int)) : (scL s l).length = l.length := by simp [scL]
theorem scL_take (s : Int) (l : List (Nat × Int)) {i : Nat} {x : Nat × Int} (h : l[i]? = some x) : scL s (l.take (i + 1)) = scL s (l.take i) ++ [(x.1, x.2 * s)] := by
  rw [List.take_add_one, h]
  simp [scL]
theorem mkT0 (n : Nat) (hn : n ≤ 1000000) (w : World) : ∃ cs : Array Value, cs.size = n * 2 ∧
    (Instr.makeSlice 69 (.int .i64 0) (.int .i64 (n : Int))).run Tryd.prog w = .ok (.slice (some ⟨w.heap.size, 0, none⟩) 0 n) (w.alloc (.cells cs 75)) := by
  obtain ⟨i0, hi, hz0, hz1, hz2⟩ := info_parts Tryd.infoT
  have h := run_make (P := Tryd.prog) w 69 75 i0 _ Tryd.underlying69 hi hz0 .i64 .i64 0 n (by omega) (by omega) (by rw [hz2]; omega) (by omega)
  refine ⟨_, ?_, h⟩
  rw [hz1]
  simp [madeCells]
theorem setCell_heap {w : World} {b i g : Nat} {v : Value} (h : g ≠ b) : (w.setCell ⟨b, i, none⟩ v).heap[g]? = w.heap[g]? := by
  simp [World.setCell, Array.getElem?_modify, h.symm]
theorem setCell_one {w : World} {b : Nat} {u v : Value} {t : TypeId} (h : w.heap[b]? = some (.cells #[u] t (0, 0))) : (w.setCell ⟨b, 0, none⟩ v).heap[b]? = some (.cells #[v] t (0, 0)) := by
  simp [World.setCell, Array.getElem?_modify, h]
theorem PwBox.step {w : World} {B bp bd g cap n : Nat} {l : List (Nat × Int)} {d S : Int} {wr w5 : World} {o1 o2 : Obj} (h : PwBox w B bp bd g cap l d wr)
    (hown : w5.ownsRow B 75 2 (.slice (some ⟨g, 0, none⟩) (l.length + 1) cap) (l.length + 1) (encT l ++ encT [(n, S)])) (hgr : ((wr.alloc o1).alloc o2).grownBy w5 (some g)) (hroom : l.length + 1 < cap) (hne : bp ≠ bd) (hbp : B ≤ bp) :
    PwBox w B bp bd g cap (l ++ [(n, S)]) d (w5.setCell ⟨bp, 0, none⟩ (.slice (some ⟨g, 0, none⟩) (l.length + 1) cap)) := by
  have hr1 : RowT w5 B (.slice (some ⟨g, 0, none⟩) (l ++ [(n, S)]).length cap) (l ++ [(n, S)]) := by
    unfold RowT
    rw [encT_append, List.length_append]
    exact hown
  have hg := hr1.lt g rfl
  have l1 : bp < wr.heap.size := (Array.getElem?_eq_some_iff.1 h.box).1
  have l2 : bd < wr.heap.size := (Array.getElem?_eq_some_iff.1 h.den).1
  have hA : Below wr.heap.size wr ((wr.alloc o1).alloc o2) := ((Below.refl wr.heap.size wr).alloc (Nat.le_refl _) _).alloc (by simp) _
  have hz := hA.size
  have hbox : w5.heap[bp]? = _ := (hgr.block bp (by simp; omega) (fun e => h.ne1 (Option.some.inj e).symm)).trans ((hA.block _ l1).trans h.box)
  have hden : w5.heap[bd]? = _ := (hgr.block bd (by simp; omega) (fun e => h.ne2 (Option.some.inj e).symm)).trans ((hA.block _ l2).trans h.den)
  have hlen : (l ++ [(n, S)]).length = l.length + 1 := by simp
  have hb5 : Below B w w5 := (h.below.trans (hA.mono h.hB)).grown hgr (Nat.le_trans h.hB hz) (fun k hk => by cases hk; exact hg.1)
  refine ⟨hr1.keep fun k e => setCell_heap (by cases e; exact h.ne1), by rw [hlen]; exact hroom, ?_, (setCell_heap hne.symm).trans hden, h.ne1, h.ne2, hb5.setCell hbp _, ?_⟩
  · rw [hlen]; exact setCell_one hbox
  · have : (w5.setCell ⟨bp, 0, none⟩ (.slice (some ⟨g, 0, none⟩) (l.length + 1) cap)).heap.size = w5.heap.size := by simp [World.setCell]
    rw [this]
    exact Nat.le_trans (Nat.le_trans h.hB hz) hgr.size
def FoRel (w : World) (B bp bd g cap : Nat) (l : List (Nat × Int)) (s d : Int) (iv : Value) (wr : World) : Prop :=
  ∃ i : Nat, i ≤ l.length ∧ iv = .int .i64 (i : Int) ∧ PwBox w B bp bd g cap (scL s (l.take i)) d wr
set_option maxRecDepth 100000 in
set_option maxHeartbeats 2000000 in
theorem Floor_any (v : Value) (l : List (Nat × Int)) (d s : Int) (k : Nat) (w : World) (hv : TmC w w.heap.size v l) (hl : validL l) (hd1 : 1 ≤ d) (hd2 : d ≤ 1000000) (hs1 : 1 ≤ s) (hs2 : s ≤ 10000000) (hs : ∀ m : Int, -1000000000000 ≤ m → m ≤ 1000000000001 → SignOk (scL s l ++ [(2, -(m * d))]) k) :
    Calls Tryd.prog 38 #[v, .int .i64 d, .int .i64 s] w fun e w' => SrPost (fun m => sgnP (scL s l ++ [(2, -(m * d))])) (-1000000000000) e ∧ Below w.heap.size w w' := by
  have hex := fun W (h : TmI W W.heap.size v (intT l)) => examine_any v (intT l) W h (by simp [intT]; have := hl.1; omega)
  rw [hl.exam] at hex
  have hlen := hl.1
  have HEX := Lib.hid hex
  have HV := Lib.hid hv
  have HL := Lib.hid hl
  have HS := Lib.hid hs
  clear hex hl hs
  obtain ⟨A, capv, rfl, hcap, -⟩ := id hv
  clear hv
  have hwd : wiB d 1 1000000 = true := by unfold wiB; rw [decide_eq_true hd1, decide_eq_true hd2]; rfl
  have hws : wiB s 1 10000000 = true := by unfold wiB; rw [decide_eq_true hs1, decide_eq_true hs2]; rfl
  have HWD := Lib.hid hwd
  have HWS := Lib.hid hws
  clear hwd hws
  have hb0 : Below w.heap.size w (w.alloc (.cells #[.int .i64 d] 2)) := (Below.refl _ _).alloc (Nat.le_refl _) _
  have HB0 := Lib.hid hb0
  go_enter Tryd.func38, Tryd.ntmps38
  go_wp2_with fail
  refine (HEX.out _ (HV.out.up hb0).int).mono ?_
  rintro e w1 ⟨he, hb1⟩
  subst he
  have hd1' : w1.heap[w.heap.size]? = some (.cells #[.int .i64 d] 2 (0, 0)) := (hb1.block _ (by simp)).trans (heap_alloc_new w _)
  have c0 : w1.cell? ⟨w.heap.size, 0, none⟩ = some (.int .i64 d) := Go.Joins.cell_of_block hd1' 0
  have hB1 : Below w.heap.size w w1 := HB0.out.trans (hb1.mono (by simp))
  have HB1 := Lib.hid hB1
  have HD1 := Lib.hid hd1'
  clear hb0 hb1 hd1' hB1
  go_wp2_with fail
  refine (within_any d 1 1000000 _).mono ?_
  rintro e w2 ⟨he, hw2⟩
  subst he
  subst hw2
  rw [HWD.out]
  go_wp2_with fail
  refine (within_any s 1 10000000 _).mono ?_
  rintro e w2 ⟨he, hw2⟩
  subst he
  subst hw2
  rw [HWS.out]
  obtain ⟨cs, hcs, hmk⟩ := mkT0 (l.length + 1) (by omega) w1
  rw [show ((l.length + 1 : Nat) : Int) = (l.length : Int) + 1 by omega] at hmk
  have HCS := Lib.hid hcs
  clear hcs
  go_wp2
  have hp0 : PwBox w w.heap.size (w1.heap.size + 1) w.heap.size w1.heap.size (l.length + 1) [] d ((w1.alloc (.cells cs 75)).alloc (.cells #[.slice (some ⟨w1.heap.size, 0, none⟩) 0 (l.length + 1)] 69)) := by
    have hz := HB1.out.size
    have hA : Below w1.heap.size w1 ((w1.alloc (.cells cs 75)).alloc (.cells #[.slice (some ⟨w1.heap.size, 0, none⟩) 0 (l.length + 1)] 69)) := ((Below.refl w1.heap.size w1).alloc (Nat.le_refl _) _).alloc (by simp) _
    have hbx := heap_alloc_new (w1.alloc (.cells cs 75)) (.cells #[.slice (some ⟨w1.heap.size, 0, none⟩) 0 (l.length + 1)] 69)
    rw [World.size_alloc] at hbx
    have hlt : w.heap.size < w1.heap.size := (Array.getElem?_eq_some_iff.1 HD1.out).1
    refine ⟨?_, by simp, hbx, (hA.block _ hlt).trans HD1.out, by omega, by omega, HB1.out.trans (hA.mono hz), by simp; omega⟩
    have h0 := World.ownsRow_made (base := w.heap.size) (e := 75) (size := 2) w1 cs (l.length + 1) hz (by unfold maxLen; omega) HCS.out
    exact h0.alloc _
  have hlt0 : w.heap.size < w1.heap.size := (Array.getElem?_eq_some_iff.1 HD1.out).1
  have HP0 := Lib.hid hp0
  clear hp0 hmk c0 HB0 HD1 HEX HWD HWS HB1 HCS
  obtain ⟨G, hG⟩ : ∃ G, w1.heap.size = G := ⟨_, rfl⟩
  rw [hG] at HP0 hlt0 ⊢
  clear hG
  generalize (w1.alloc (.cells cs 75)).alloc (.cells #[.slice (some ⟨G, 0, none⟩) 0 (l.length + 1)] 69) = W0 at *
  go_loopw [32] (fun iv wr => FoRel w w.heap.size (G + 1) w.heap.size G (l.length + 1) l s d iv wr) (fun iv _ => l.length - (intOf iv).toNat)
  case atStart => exact ⟨0, Nat.zero_le _, rfl, HP0.out⟩
  case round =>
    clear HP0
    obtain ⟨i, hi, rfl, hp⟩ := hrel
    have hsl : (scL s (l.take i)).length = i := by rw [scL_len, List.length_take]; omega
    have HP := Lib.hid hp
    have hbox := hp.box
    rw [hsl] at hbox
    have b0 : wr.cell? ⟨G + 1, 0, none⟩ = some (.slice (some ⟨G, 0, none⟩) i (l.length + 1)) := Go.Joins.cell_of_block hbox 0
    by_cases hil : i < l.length
    · obtain ⟨x, hx⟩ : ∃ x, l[i]? = some x := ⟨l[i], List.getElem?_eq_getElem hil⟩
      obtain ⟨A', cap', e, -, hh⟩ := HV.out.keep hp.below
      cases e
      obtain ⟨ga, o, rfl, hga, hcells⟩ := hh (by intro e; rw [e] at hil; simp at hil)
      obtain ⟨a0, a1⟩ := hcells i x hx
      have hilI : (i : Int) < (l.length : Int) := by omega
      have hnx := HL.out.2 x (List.mem_of_getElem? hx)
      have HX := Lib.hid hx
      obtain ⟨n, a⟩ := x
      simp only at a0 a1 hnx
      obtain ⟨S, hS⟩ : ∃ S : Int, a * s = S := ⟨_, rfl⟩
      have hSb : -10000000000000000 ≤ S ∧ S ≤ 10000000000000000 := by
        rw [← hS]
        have a1 := Int.mul_le_mul_of_nonneg_right (show a ≤ 1000000000 by omega) (show 0 ≤ s by omega)
        have a2 := Int.mul_le_mul_of_nonneg_right (show -1000000000 ≤ a by omega) (show 0 ≤ s by omega)
        omega
      have s1 : IntKind.i64.wrap S = S := IntWalk.i64_in _ (by omega)
      have hrow := hp.row
      have hown := hrow.up (((Below.refl wr.heap.size wr).alloc (Nat.le_refl _) (.cells #[.int .i64 (n : Int), .int .i64 a] 75)).alloc (by simp) (.cells #[.int .i64 (n : Int), .int .i64 S] 75))
      unfold RowT at hown
      rw [hsl] at hown
      have HOWN := Lib.hid hown
      have HBX := Lib.hid hbox
      have hne := hp.ne1
      have hlt1 : G + 1 < wr.heap.size := (Array.getElem?_eq_some_iff.1 hbox).1
      have HSL := Lib.hid hsl
      obtain ⟨i0, hi0, hz0, hz1, hz2⟩ := info_parts Tryd.infoT
      clear hx hh hcells hp hrow hown hbox hsl
      go_wp2_with (at_builtin; refine wpList_append_fits _ rfl (.tmp 36) (.tmp 44) 69 rfl w.heap.size 75 i0 2 Tryd.underlying69 hi0 hz1 G i (l.length + 1) (encT (scL s (l.take i))) rfl HOWN.out ⟨wr.heap.size + 1, 0, none⟩ 1 1 (encT [(n, S)]) rfl rfl (World.news_of_block (cs := #[.int .i64 (n : Int), .int .i64 S]) (t := 75) (fr := (0, 0)) (by have h := heap_alloc_new (wr.alloc (.cells #[.int .i64 (n : Int), .int .i64 a] 75)) (.cells #[.int .i64 (n : Int), .int .i64 S] 75); rw [World.size_alloc] at h; exact h)) (one_encT _) (by omega) ?_; intro w5 hown5 hgr5; have q0 : w5.heap[G + 1]? = _ := (hgr5.block (G + 1) (by simp; omega) (fun e => absurd (Option.some.inj e) (by omega))).trans (((((Below.refl wr.heap.size wr).alloc (Nat.le_refl _) _).alloc (by simp) _).block _ hlt1).trans HBX.out); have q1 := Go.Joins.cell_of_block q0 0; have q2 : w5.frozen? ⟨G + 1, 0, none⟩ = false := by (simp [World.frozen?, q0]))
      have hp := HP.out
      have hsl := HSL.out
      refine ⟨⟨i + 1, by omega, by go_num, ?_⟩, by simp [intOf]; omega⟩
      have h := PwBox.step (n := n) (S := S) hp (by rw [hsl]; exact hown5) hgr5 (by rw [hsl]; omega) (by omega) (by omega)
      rw [hsl] at h
      rw [scL_take s l HX.out]
      show PwBox _ _ _ _ _ _ (scL s (l.take i) ++ [(n, a * s)]) _ _
      rw [hS]
      exact h
    · obtain rfl : i = l.length := by omega
      rw [List.take_length] at hp
      have HPW := Lib.hid hp
      have hsr := search_floor (.pointer (some ⟨G + 1, 0, none⟩)) (.pointer (some ⟨w.heap.size, 0, none⟩)) (PwBox w w.heap.size (G + 1) w.heap.size G (l.length + 1) (scL s l) d) (fun m => sgnP (scL s l ++ [(2, -(m * d))])) (-1000000000000) wr (by omega) (by omega) (fun W n h => h.drewN n)
        (fun m W m1 m2 h => floorC w w.heap.size (G + 1) w.heap.size G (l.length + 1) (scL s l) d m k W h (by omega) m2 hd1 hd2 (HS.out m (by omega) m2)) hp
      have HSR := Lib.hid hsr
      clear hsr hp b0 HP hbox hsl
      go_wp2_with fail
      refine HSR.out.mono ?_
      rintro e w2 ⟨hsp, hI⟩
      have HI := Lib.hid hI.below
      clear hI
      rcases hsp with ⟨hc, he⟩ | ⟨hc, m, m1, m2, m3, m4, he⟩
      · have HC := Lib.hid hc
        clear hc
        subst he
        go_wp2
        go_ret3
        exact ⟨.inl ⟨HC.out, rfl⟩, HI.out⟩
      · have HC := Lib.hid hc
        have H3 := Lib.hid m3
        have H4 := Lib.hid m4
        clear hc m3 m4
        subst he
        go_wp2
        go_ret3
        exact ⟨.inr ⟨HC.out, m, m1, m2, H3.out, H4.out, rfl⟩, HI.out⟩
end Go.Proofs.YtkoghdgfllichaaDoor
