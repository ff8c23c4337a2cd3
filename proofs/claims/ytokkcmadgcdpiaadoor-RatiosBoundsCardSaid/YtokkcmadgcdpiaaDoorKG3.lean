import Derived.Test.YtokkcmadgcdpiaaDoorKG2
import Derived.Test.YtokkcmadgcdpiaaDoorKBA
namespace Go.Proofs.YtokkcmadgcdpiaaDoor
open Go.RowKit

/-! The closure of Power; Power. -/
theorem powerC0 (w : World) (B bp bd g cap : Nat) (l : List (Nat × Int)) (d : Int) (W : World) (h : PwBox w B bp bd g cap l d W) :
    Calls Tryd.prog 58 #[.int .i64 0, .pointer (some ⟨bp, 0, none⟩), .pointer (some ⟨bd, 0, none⟩)] W fun e W' => e = .returned (.int .i64 1) ∧ PwBox w B bp bd g cap l d W' := by
  have H := Lib.hid h
  clear h
  go_enter Tryd.func58, Tryd.ntmps58
  go_wp2
  go_ret
  exact ⟨rfl, H.out⟩
set_option maxRecDepth 100000 in
set_option maxHeartbeats 1000000 in
theorem powerC (w : World) (B bp bd g cap : Nat) (l : List (Nat × Int)) (d m : Int) (k : Nat) (W : World) (h : PwBox w B bp bd g cap l d W) (h1 : 1 ≤ m) (h2 : m ≤ 1000000000001) (hd1 : 1 ≤ d) (hd2 : d ≤ 1000000) (hs : SignOk (l ++ [(m.toNat, -d)]) k) :
    Calls Tryd.prog 58 #[.int .i64 m, .pointer (some ⟨bp, 0, none⟩), .pointer (some ⟨bd, 0, none⟩)] W fun e W' => e = .returned (.int .i64 (sgnP (l ++ [(m.toNat, -d)]))) ∧ PwBox w B bp bd g cap l d W' := by
  have c1 : W.cell? ⟨bp, 0, none⟩ = some (.slice (some ⟨g, 0, none⟩) l.length cap) := Go.Joins.cell_of_block h.box 0
  have c2 : W.cell? ⟨bd, 0, none⟩ = some (.int .i64 d) := Go.Joins.cell_of_block h.den 0
  have s1 : IntKind.i64.wrap (-d) = -d := IntWalk.i64_in _ (by omega)
  obtain ⟨N, rfl⟩ := Int.eq_ofNat_of_zero_le (show 0 ≤ m by omega)
  rw [Int.toNat_natCast] at hs ⊢
  have hm0 : ¬ (N : Int) = 0 := by omega
  obtain ⟨X, hX⟩ : ∃ X : Int, -d = X := ⟨_, rfl⟩
  rw [hX] at hs s1 ⊢
  have HSG := Lib.hid fun W' (h' : TmC W' W'.heap.size (.slice (some ⟨g, 0, none⟩) (l ++ [(N, X)]).length cap) (l ++ [(N, X)])) => sign_any _ _ k W' h' hs
  have H := Lib.hid h
  have hrm := h.room
  clear h hs
  have hlen : (l ++ [(N, X)]).length = l.length + 1 := by simp
  rw [hlen] at HSG
  have hown := H.out.row.up ((Below.refl W.heap.size W).alloc (Nat.le_refl _) (.cells #[.int .i64 (N : Int), .int .i64 X] 63))
  obtain ⟨i0, hi0, hz0, hz1, hz2⟩ := info_parts Tryd.infoT
  go_enter Tryd.func58, Tryd.ntmps58
  go_wp2_with (at_builtin; refine wpList_append_fits _ rfl (.tmp 7) (.tmp 12) 22 rfl B 63 i0 2 Tryd.underlying22 hi0 hz1 g l.length cap (encT l) rfl hown ⟨W.heap.size, 0, none⟩ 1 1 (encT [(N, X)]) rfl rfl (World.news_of_block (cs := #[.int .i64 (N : Int), .int .i64 X]) (t := 63) (fr := (0, 0)) (heap_alloc_new W _)) (one_encT _) (by omega) ?_; intro w1 hown1 hgr1)
  have hr1 : RowT w1 B (.slice (some ⟨g, 0, none⟩) (l ++ [(N, X)]).length cap) (l ++ [(N, X)]) := by
    unfold RowT
    rw [encT_append, hlen]
    exact hown1
  have ht1 := hr1.tmc
  rw [hlen] at ht1
  refine (HSG.out w1 ht1).mono ?_
  rintro e w2 ⟨he, hb2⟩
  subst he
  go_wp2
  go_ret
  refine ⟨rfl, PwBox.up ?_ hb2⟩
  have h := H.out
  have hg := hr1.lt g rfl
  have l1 : bp < W.heap.size := (Array.getElem?_eq_some_iff.1 h.box).1
  have l2 : bd < W.heap.size := (Array.getElem?_eq_some_iff.1 h.den).1
  have hA : Below W.heap.size W (W.alloc (.cells #[.int .i64 (N : Int), .int .i64 X] 63)) := (Below.refl W.heap.size W).alloc (Nat.le_refl _) _
  have hz := hA.size
  have ht := hr1.take l.length (by rw [hlen]; omega)
  rw [List.take_left'  rfl] at ht
  refine ⟨ht, h.room, ?_, ?_, h.ne1, h.ne2, (h.below.alloc h.hB _).grown hgr1 (Nat.le_trans h.hB hz) (fun k hk => by cases hk; exact hg.1), ?_⟩
  · exact (hgr1.block bp (by simp; omega) (fun e => h.ne1 (Option.some.inj e).symm)).trans ((hA.block _ l1).trans h.box)
  · exact (hgr1.block bd (by simp; omega) (fun e => h.ne2 (Option.some.inj e).symm)).trans ((hA.block _ l2).trans h.den)
  · exact Nat.le_trans (Nat.le_trans h.hB hz) hgr1.size
end Go.Proofs.YtokkcmadgcdpiaaDoor
