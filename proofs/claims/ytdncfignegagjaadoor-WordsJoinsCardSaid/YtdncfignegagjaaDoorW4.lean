import Derived.Test.YtdncfignegagjaaDoorW3
namespace Go.Proofs.YtdncfignegagjaaDoor
open Go.RowKit

theorem parse_ok (s : ByteArray) (hs : s.size ≤ 281474976710656) (v : Int) (h : Lib.parseIntB 64 s.data.toList = .ok v) (w : World) :
    Calls Tryd.prog 48 #[.string s, .int .i64 10, .int .i64 64] w fun e w' => e = .returned (.tuple #[.int .i64 v, .nilIface]) ∧ Below w.heap.size w w' := by
  refine (Tryd.strconv_ParseInt_10_at64_ok s (by omega) v h w).mono ?_
  rintro e w' ⟨rfl, rfl | ⟨t, rfl⟩⟩
  · exact ⟨rfl, Below.refl _ _⟩
  · exact ⟨rfl, Lib.bytesWorld_below _ _ _⟩
theorem parse_bad (s : ByteArray) (hs : s.size ≤ 281474976710656) (h : ∀ v, Lib.parseIntB 64 s.data.toList ≠ .ok v) (w : World) (hT : Tabs w) :
    Calls Tryd.prog 48 #[.string s, .int .i64 10, .int .i64 64] w fun e w' => (∃ v t p, e = .returned (.tuple #[.int .i64 v, .iface t p])) ∧ Below w.heap.size w w' := by
  cases hp : Lib.parseIntB 64 s.data.toList with
  | ok v => exact absurd hp (h v)
  | range =>
    obtain ⟨te, pe, he⟩ := hT.eran
    refine (Tryd.strconv_ParseInt_10_at64_range s hs hp _ w he (.inr ⟨_, _, rfl⟩)).mono ?_
    rintro e w' ⟨N, rfl, _, _, hb⟩
    exact ⟨⟨_, _, _, rfl⟩, hb⟩
  | _ =>
    obtain ⟨te, pe, he⟩ := hT.esyn
    refine (Any.strconv_ParseInt_10_at64_syntax Tryd.laysC174 s hs hp _ w he (.inr ⟨_, _, rfl⟩)).mono ?_
    rintro e w' ⟨N, rfl, _, _, hb⟩
    exact ⟨⟨_, _, _, rfl⟩, hb⟩

def intW (l : List UInt8) (least most : Int) : Int × Int :=
  if most < least then (0, 2) else if wholeB l = false then (0, 6) else
    match Lib.parseIntB 64 l with
    | .ok v => if v < least then (0, 7) else if most < v then (0, 7) else (v, 0)
    | _ => (0, 7)
theorem intW_1 {l : List UInt8} {least most : Int} (h : most < least) : intW l least most = (0, 2) := by simp [intW, h]
theorem intW_2 {l : List UInt8} {least most : Int} (h : ¬ most < least) (h1 : wholeB l = false) : intW l least most = (0, 6) := by simp [intW, h, h1]
theorem intW_3 {l : List UInt8} {least most v : Int} (h : ¬ most < least) (h1 : wholeB l = true) (h2 : Lib.parseIntB 64 l = .ok v) (h3 : v < least ∨ most < v) : intW l least most = (0, 7) := by
  simp only [intW, h, h1, h2]; rcases h3 with h3 | h3 <;> simp [h3]
theorem intW_4 {l : List UInt8} {least most v : Int} (h : ¬ most < least) (h1 : wholeB l = true) (h2 : Lib.parseIntB 64 l = .ok v) (h3 : ¬ v < least) (h4 : ¬ most < v) : intW l least most = (v, 0) := by
  simp [intW, h, h1, h2, h3, h4]
theorem intW_5 {l : List UInt8} {least most : Int} (h : ¬ most < least) (h1 : wholeB l = true) (h2 : ∀ v, Lib.parseIntB 64 l ≠ .ok v) : intW l least most = (0, 7) := by
  simp only [intW, h, h1]
  cases hp : Lib.parseIntB 64 l with
  | ok v => exact absurd hp (h2 v)
  | _ => simp
def intV (x : Int × Int) : Value := .tuple #[.int .i64 x.1, .int .i64 x.2]
theorem ret_intV {x : Int × Int} {a b : Int} (h : x = (a, b)) : Ending.returned (.tuple #[.int .i64 a, .int .i64 b]) = .returned (intV x) := by rw [h]; rfl

set_option maxHeartbeats 400000 in
theorem int_any (s : ByteArray) (least most : Int) (w : World) (hT : Tabs w) (hs : s.size ≤ 281474976710656) :
    Calls Tryd.prog 18 #[.string s, .int .i64 least, .int .i64 most] w fun e w' => e = .returned (intV (intW s.data.toList least most)) ∧ Below w.heap.size w w' := by
  have hsm : s.size ≤ maxLen := by unfold maxLen; omega
  by_cases h1 : most < least
  · have hf := Lib.hid (intW_1 (l := s.data.toList) h1)
    go_enter Tryd.func18, Tryd.ntmps18
    go_wp2_with fail
    go_ret2
    exact ⟨ret_intV hf.out, Below.refl _ _⟩
  cases h2 : wholeB s.data.toList
  · have hf := Lib.hid (intW_2 h1 h2)
    have H2 := Lib.hid h2; clear h2
    go_enter Tryd.func18, Tryd.ntmps18
    go_wp2_with (go_at_call 47; refine (whole_any s _ hsm).mono ?_; rintro e w' ⟨rfl, rfl⟩; rw [H2.out])
    go_ret2
    exact ⟨ret_intV hf.out, Below.refl _ _⟩
  by_cases h3 : ∃ v, Lib.parseIntB 64 s.data.toList = .ok v
  · obtain ⟨v, h3⟩ := h3
    have H2 := Lib.hid h2
    have H3 := Lib.hid h3
    by_cases h4 : v < least
    · have hf := Lib.hid (intW_3 h1 h2 h3 (.inl h4)); clear h2 h3
      go_enter Tryd.func18, Tryd.ntmps18
      go_wp2_with (first
        | (go_at_call 47; refine (whole_any s _ hsm).mono ?_; rintro e w' ⟨rfl, rfl⟩; rw [H2.out])
        | (go_at_call 48; refine (parse_ok s hs v H3.out _).mono ?_; rintro e w' ⟨rfl, hb⟩))
      go_ret2
      exact ⟨ret_intV hf.out, hb⟩
    by_cases h5 : most < v
    · have hf := Lib.hid (intW_3 h1 h2 h3 (.inr h5)); clear h2 h3
      go_enter Tryd.func18, Tryd.ntmps18
      go_wp2_with (first
        | (go_at_call 47; refine (whole_any s _ hsm).mono ?_; rintro e w' ⟨rfl, rfl⟩; rw [H2.out])
        | (go_at_call 48; refine (parse_ok s hs v H3.out _).mono ?_; rintro e w' ⟨rfl, hb⟩))
      go_ret2
      exact ⟨ret_intV hf.out, hb⟩
    · have hf := Lib.hid (intW_4 h1 h2 h3 h4 h5); clear h2 h3
      go_enter Tryd.func18, Tryd.ntmps18
      go_wp2_with (first
        | (go_at_call 47; refine (whole_any s _ hsm).mono ?_; rintro e w' ⟨rfl, rfl⟩; rw [H2.out])
        | (go_at_call 48; refine (parse_ok s hs v H3.out _).mono ?_; rintro e w' ⟨rfl, hb⟩))
      go_ret2
      exact ⟨ret_intV hf.out, hb⟩
  · have h3' : ∀ v, Lib.parseIntB 64 s.data.toList ≠ .ok v := fun v e => h3 ⟨v, e⟩
    have hf := Lib.hid (intW_5 h1 h2 h3')
    have H2 := Lib.hid h2
    have H3 := Lib.hid h3'
    have HT := Lib.hid hT
    clear h2 h3 h3' hT
    go_enter Tryd.func18, Tryd.ntmps18
    go_wp2_with (first
        | (go_at_call 47; refine (whole_any s _ hsm).mono ?_; rintro e w' ⟨rfl, rfl⟩; rw [H2.out])
        | (go_at_call 48; refine (parse_bad s hs H3.out _ HT.out).mono ?_; rintro e w' ⟨⟨v, t, p, rfl⟩, hb⟩))
    go_ret2
    exact ⟨ret_intV hf.out, hb⟩
end Go.Proofs.YtdncfignegagjaaDoor
