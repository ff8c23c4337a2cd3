import Derived.Test.YtdncfignegagjaaDoorW14
namespace Go.Proofs.YtdncfignegagjaaDoor
open Go.RowKit

theorem itoa_one (n : Nat) (h : n < 10) : Lib.itoa (n : Int) = [UInt8.ofNat (48 + n)] := by
  unfold Lib.itoa
  rw [if_neg (by omega)]
  exact Lib.decDigits_one (by omega)
theorem note_70 : noteW 70 = ([97, 35, 52], 0) := by
  have h := itoa_one 4 (by omega)
  show (nmL.getD 10 [] ++ Lib.itoa ((4 : Nat) : Int), 0) = _
  rw [h]; rfl
theorem parse_cb4 : parseNoteW [99, 98, 52] = (59, 0) := by decide +kernel
theorem feet_83 : feetW 8 3 = ([50, 43, 50, 47, 51], 0) := by
  have h2 := itoa_one 2 (by omega)
  have h3 := itoa_one 3 (by omega)
  have hb : footB 8 3 = true := by decide +kernel
  unfold feetW
  rw [if_pos hb, if_neg (by omega), if_neg (by omega)]
  show (Lib.itoa ((2 : Nat) : Int) ++ [43] ++ (Lib.itoa ((2 : Nat) : Int) ++ [47] ++ Lib.itoa ((3 : Nat) : Int)), 0) = _
  rw [h2, h3]; rfl
theorem quote_say : quoteW [115, 97, 121, 32, 34, 97, 34] = ([34, 115, 97, 121, 32, 34, 34, 97, 34, 34, 34], 0) := by decide +kernel
def lineL : List UInt8 := [115, 116, 111, 112, 32, 34, 84, 114, 117, 109, 112, 101, 116, 32, 56, 34, 32, 49]
def fldsL : List Fld := [(false, [115, 116, 111, 112]), (true, [84, 114, 117, 109, 112, 101, 116, 32, 56]), (false, [49])]
theorem split_line : splitW lineL = (fldsL, 0) := by decide +kernel

theorem s_note (w : World) (hT : Tabs w) : Calls Tryd.prog 22 #[.int .i64 70] w fun e w' => e = .returned (.tuple #[.string ⟨#[97, 35, 52]⟩, .int .i64 0]) ∧ Below w.heap.size w w' := by
  have h := noteS_any 70 w hT
  rw [note_70] at h
  exact h
theorem s_parse (w : World) (hT : Tabs w) : Calls Tryd.prog 24 #[.string ⟨#[99, 98, 52]⟩] w fun e w' => e = .returned (.tuple #[.int .i64 59, .int .i64 0]) ∧ Below w.heap.size w w' := by
  have h := parseNote_any ⟨#[99, 98, 52]⟩ w hT (by decide)
  simp only at h
  rw [parse_cb4] at h
  exact h
theorem s_feet (w : World) (hT : Tabs w) : Calls Tryd.prog 26 #[.agg #[.int .i64 8, .int .i64 3]] w fun e w' => e = .returned (.tuple #[.string ⟨#[50, 43, 50, 47, 51]⟩, .int .i64 0]) ∧ Below w.heap.size w w' := by
  have h := feet_any 8 3 w hT (by omega) (by omega)
  rw [feet_83] at h
  exact h
theorem s_quote (w : World) (hT : Tabs w) : Calls Tryd.prog 30 #[.string ⟨#[115, 97, 121, 32, 34, 97, 34]⟩] w fun e w' => e = .returned (.tuple #[.string ⟨#[34, 115, 97, 121, 32, 34, 34, 97, 34, 34, 34]⟩, .int .i64 0]) ∧ Below w.heap.size w w' := by
  have h := quote_any ⟨#[115, 97, 121, 32, 34, 97, 34]⟩ w hT (by decide)
  simp only at h
  rw [quote_say] at h
  exact h
theorem s_split (w : World) (hT : Tabs w) : Calls Tryd.prog 34 #[.string ⟨#[115, 116, 111, 112, 32, 34, 84, 114, 117, 109, 112, 101, 116, 32, 56, 34, 32, 49]⟩] w (FldsPost w (fldsL, 0)) := by
  have h := split_any ⟨#[115, 116, 111, 112, 32, 34, 84, 114, 117, 109, 112, 101, 116, 32, 56, 34, 32, 49]⟩ (by decide) w hT
  have e : splitW (⟨#[115, 116, 111, 112, 32, 34, 84, 114, 117, 109, 112, 101, 116, 32, 56, 34, 32, 49]⟩ : ByteArray).data.toList = (fldsL, 0) := split_line
  rw [e] at h
  exact h

theorem lit_slf (w : World) : SlF (w.alloc (.cells #[.bool false, .string ⟨#[115, 116, 111, 112]⟩, .bool true, .string ⟨#[84, 114, 117, 109, 112, 101, 116, 32, 56]⟩, .bool false, .string ⟨#[49]⟩] 61))
    (w.alloc (.cells #[.bool false, .string ⟨#[115, 116, 111, 112]⟩, .bool true, .string ⟨#[84, 114, 117, 109, 112, 101, 116, 32, 56]⟩, .bool false, .string ⟨#[49]⟩] 61)).heap.size (.slice (some ⟨w.heap.size, 0, none⟩) 3 3) fldsL := by
  refine ⟨_, 3, rfl, fun _ => ⟨w.heap.size, 0, rfl, by simp, ?_⟩⟩
  intro k x hx
  match k, hx with
  | 0, hx => simp [fldsL] at hx; subst hx; simp
  | 1, hx => simp [fldsL] at hx; subst hx; simp
  | 2, hx => simp [fldsL] at hx; subst hx; simp

set_option maxRecDepth 100000 in
set_option maxHeartbeats 2000000 in
theorem shown_any (w : World) (hT : Tabs w) :
    Calls Tryd.prog 13 #[] w fun e w' => e = .returned (.bool true) ∧ Below w.heap.size w w' := by
  have HT := Lib.hid hT
  clear hT
  go_enter Tryd.func13, Tryd.ntmps13
  go_wp2_with fail
  refine (s_note _ HT.out).mono ?_
  rintro e w1 ⟨rfl, hb1⟩
  go_wp2_with fail
  refine (s_parse _ (HT.out.below hb1)).mono ?_
  rintro e w2 ⟨rfl, hb2⟩
  have hb2 := hb1.trans (hb2.mono hb1.size)
  go_wp2_with fail
  refine (s_feet _ (HT.out.below hb2)).mono ?_
  rintro e w3 ⟨rfl, hb3⟩
  have hb3 := hb2.trans (hb3.mono hb2.size)
  go_wp2_with fail
  refine (s_quote _ (HT.out.below hb3)).mono ?_
  rintro e w4 ⟨rfl, hb4⟩
  have hb4 := hb3.trans (hb4.mono hb3.size)
  go_wp2_with fail
  refine (s_split _ (HT.out.below hb4)).mono ?_
  rintro e w5 ⟨v, rfl, hown, hb5⟩
  have hsl := SlF.of_own hown
  have hb5 := hb4.trans (hb5.mono hb4.size)
  clear hown
  have HS := Lib.hid hsl
  clear hsl
  go_wp2_with fail
  refine (lawFields_any v fldsL _ HS.out (by decide)).mono ?_
  rintro e w6 ⟨u, rfl, hown6, hb6⟩
  have hb6 := hb5.trans (hb6.mono hb5.size)
  have HS6 := Lib.hid (SlF.of_own hown6)
  clear hown6
  go_wp2_with fail
  have hb7 : Below w6.heap.size w6 (w6.alloc (.cells #[.bool false, .string ⟨#[115, 116, 111, 112]⟩, .bool true, .string ⟨#[84, 114, 117, 109, 112, 101, 116, 32, 56]⟩, .bool false, .string ⟨#[49]⟩] 61)) := (Below.refl _ _).alloc (Nat.le_refl _) _
  refine (alike_any u (.slice (some ⟨w6.heap.size, 0, none⟩) 3 3) fldsL fldsL (w6.alloc (.cells #[.bool false, .string ⟨#[115, 116, 111, 112]⟩, .bool true, .string ⟨#[84, 114, 117, 109, 112, 101, 116, 32, 56]⟩, .bool false, .string ⟨#[49]⟩] 61)) ((HS6.out.below hb7).more hb7.size) (lit_slf w6) (by decide) (by decide)).mono ?_
  rintro e w8 ⟨rfl, hd⟩
  have hb8 := hb6.trans ((hb7.trans (hd.below.mono hb7.size)).mono hb6.size)
  go_wp2_with fail
  go_ret
  exact ⟨rfl, hb8⟩
end Go.Proofs.YtdncfignegagjaaDoor
