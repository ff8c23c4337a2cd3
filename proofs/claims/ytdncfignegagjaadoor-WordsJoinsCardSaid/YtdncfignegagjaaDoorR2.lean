import Derived.Test.YtdncfignegagjaaDoorR2c
import Derived.Laws.StructEq
namespace Go.Proofs.YtdncfignegagjaaDoor
open Go.RowKit

theorem k_note : noteW 128 = ([], 7) := by decide +kernel
theorem k_parse1 : parseNoteW [104, 52] = (0, 6) := by decide +kernel
theorem k_parse2 : parseNoteW [103, 35, 57] = (0, 7) := by decide +kernel
theorem k_feet : feetW 4 2 = ([], 2) := by
  have : footB 4 2 = false := by decide +kernel
  simp [feetW, this]
theorem k_pf : parseFeetW [50, 43, 52, 47, 54] = ((0, 0), 6) := by decide +kernel
theorem k_unq : unquoteW [34, 97] = ([], 6) := by decide +kernel
theorem k_split1 : splitW [97, 32, 32, 98] = ([], 6) := by decide +kernel
theorem k_split2 : splitW [97, 34, 98] = ([], 6) := by decide +kernel
theorem k_int : intW [53] 9 0 = (0, 2) := by decide +kernel

theorem kc_note (w : World) (hT : Tabs w) : Calls Tryd.prog 22 #[.int .i64 128] w fun e w' => e = .returned (.tuple #[.string ⟨#[]⟩, .int .i64 7]) ∧ Below w.heap.size w w' := by
  have h := noteS_any 128 w hT
  rw [k_note] at h
  exact h
theorem kc_parse1 (w : World) (hT : Tabs w) : Calls Tryd.prog 24 #[.string ⟨#[104, 52]⟩] w fun e w' => e = .returned (.tuple #[.int .i64 0, .int .i64 6]) ∧ Below w.heap.size w w' := by
  have h := parseNote_any ⟨#[104, 52]⟩ w hT (by decide)
  simp only at h
  rw [k_parse1] at h
  exact h
theorem kc_parse2 (w : World) (hT : Tabs w) : Calls Tryd.prog 24 #[.string ⟨#[103, 35, 57]⟩] w fun e w' => e = .returned (.tuple #[.int .i64 0, .int .i64 7]) ∧ Below w.heap.size w w' := by
  have h := parseNote_any ⟨#[103, 35, 57]⟩ w hT (by decide)
  simp only at h
  rw [k_parse2] at h
  exact h
theorem kc_feet (w : World) (hT : Tabs w) : Calls Tryd.prog 26 #[.agg #[.int .i64 4, .int .i64 2]] w fun e w' => e = .returned (.tuple #[.string ⟨#[]⟩, .int .i64 2]) ∧ Below w.heap.size w w' := by
  have h := feet_any 4 2 w hT (by omega) (by omega)
  rw [k_feet] at h
  exact h
theorem kc_pf (w : World) (hT : Tabs w) : Calls Tryd.prog 28 #[.string ⟨#[50, 43, 52, 47, 54]⟩] w fun e w' => e = .returned (.tuple #[.agg #[.int .i64 0, .int .i64 0], .int .i64 6]) ∧ Below w.heap.size w w' := by
  have h := parseFeet_any ⟨#[50, 43, 52, 47, 54]⟩ w hT (by decide)
  simp only at h
  rw [k_pf] at h
  exact h
theorem kc_unq (w : World) (hT : Tabs w) : Calls Tryd.prog 32 #[.string ⟨#[34, 97]⟩] w fun e w' => e = .returned (.tuple #[.string ⟨#[]⟩, .int .i64 6]) ∧ Below w.heap.size w w' := by
  have h := unquote_any ⟨#[34, 97]⟩ w hT (by decide)
  simp only at h
  rw [k_unq] at h
  exact h
theorem kc_int (w : World) (hT : Tabs w) : Calls Tryd.prog 18 #[.string ⟨#[53]⟩, .int .i64 9, .int .i64 0] w fun e w' => e = .returned (.tuple #[.int .i64 0, .int .i64 2]) ∧ Below w.heap.size w w' := by
  have h := int_any ⟨#[53]⟩ 9 0 w hT (by decide)
  simp only at h
  rw [k_int] at h
  exact h
/-- No fields and an error number. -/
def NoneP (w : World) (n : Int) (e : Ending) (w' : World) : Prop := ∃ A cap, e = .returned (.tuple #[.slice A 0 cap, .int .i64 n]) ∧ Below w.heap.size w w'
theorem none_of {w w' : World} {n : Int} {e : Ending} (h : FldsPost w ([], n) e w') : NoneP w n e w' := by
  obtain ⟨v, rfl, hown, hb⟩ := h
  obtain ⟨A, cap, rfl, _⟩ := SlF.of_own hown
  exact ⟨A, cap, rfl, hb⟩
theorem kc_split1 (w : World) (hT : Tabs w) : Calls Tryd.prog 34 #[.string ⟨#[97, 32, 32, 98]⟩] w (NoneP w 6) := by
  have h := split_any ⟨#[97, 32, 32, 98]⟩ (by decide) w hT
  have e : splitW (⟨#[97, 32, 32, 98]⟩ : ByteArray).data.toList = ([], 6) := k_split1
  rw [e] at h
  exact h.mono fun _ _ => none_of
theorem kc_split2 (w : World) (hT : Tabs w) : Calls Tryd.prog 34 #[.string ⟨#[97, 34, 98]⟩] w (NoneP w 6) := by
  have h := split_any ⟨#[97, 34, 98]⟩ (by decide) w hT
  have e : splitW (⟨#[97, 34, 98]⟩ : ByteArray).data.toList = ([], 6) := k_split2
  rw [e] at h
  exact h.mono fun _ _ => none_of
theorem eql_feet0 (w : World) : (binOp .eql 37 (.agg #[.int .i64 0, .int .i64 0]) (.agg #[.int .i64 0, .int .i64 0])).run Tryd.prog w = .ok (.bool true) w := by
  have h := Tryd.underlying37
  rw [run_eql_struct, run_equalIn_agg]
  · simp [go_sem]
  · kernel_rfl
  · kernel_rfl

set_option maxRecDepth 100000 in
set_option maxHeartbeats 4000000 in
/-- The law WordsKnown. -/
theorem lawKnown_any (w : World) (hT : Tabs w) :
    Calls Tryd.prog 12 #[] w fun e w' => e = .returned (.bool true) ∧ Below w.heap.size w w' := by
  have HT := Lib.hid hT
  have heq := eql_feet0
  clear hT
  go_enter Tryd.func12, Tryd.ntmps12
  go_wp2_with fail
  refine (kc_note _ HT.out).mono ?_
  rintro e w1 ⟨rfl, hb1⟩
  go_wp2_with fail
  refine (kc_parse1 _ (HT.out.below hb1)).mono ?_
  rintro e w2 ⟨rfl, hb2⟩
  have hb2 := hb1.trans (hb2.mono hb1.size)
  go_wp2_with fail
  refine (kc_parse2 _ (HT.out.below hb2)).mono ?_
  rintro e w3 ⟨rfl, hb3⟩
  have hb3 := hb2.trans (hb3.mono hb2.size)
  go_wp2_with fail
  refine (kc_feet _ (HT.out.below hb3)).mono ?_
  rintro e w4 ⟨rfl, hb4⟩
  have hb4 := hb3.trans (hb4.mono hb3.size)
  go_wp2_with fail
  refine (kc_pf _ (HT.out.below hb4)).mono ?_
  rintro e w5 ⟨rfl, hb5⟩
  have hb5 := hb4.trans (hb5.mono hb4.size)
  have hb5' : Below w.heap.size w (w5.alloc (.cells #[.int .i64 0, .int .i64 0] 37)) := hb5.alloc hb5.size _
  go_wp2_with fail
  refine (kc_unq _ (HT.out.below hb5')).mono ?_
  rintro e w6 ⟨rfl, hb6⟩
  obtain ⟨c0, c1, _, _, hl6⟩ := new2 hb6
  have hb6 := hb5'.trans (hb6.mono hb5'.size)
  go_wp2_with fail
  refine (kc_split1 _ (HT.out.below hb6)).mono ?_
  rintro e w7 ⟨A1, cap1, rfl, hb7⟩
  have c0 := cell_later hb7 c0
  have c1 := cell_later hb7 c1
  have hb7 := hb6.trans (hb7.mono hb6.size)
  go_wp2_with fail
  refine (kc_split2 _ (HT.out.below hb7)).mono ?_
  rintro e w8 ⟨A2, cap2, rfl, hb8⟩
  have c0 := cell_later hb8 c0
  have c1 := cell_later hb8 c1
  have hb8 := hb7.trans (hb8.mono hb7.size)
  go_wp2_with fail
  refine (kc_int _ (HT.out.below hb8)).mono ?_
  rintro e w9 ⟨rfl, hb9⟩
  have c0 := cell_later hb9 c0
  have c1 := cell_later hb9 c1
  have hb9 := hb8.trans (hb9.mono hb8.size)
  go_wp2_with fail
  refine (shown_any _ (HT.out.below hb9)).mono ?_
  rintro e w10 ⟨rfl, hb10⟩
  have hb10 := hb9.trans (hb10.mono hb9.size)
  go_wp2_with fail
  go_ret
  exact ⟨rfl, hb10⟩
end Go.Proofs.YtdncfignegagjaaDoor
