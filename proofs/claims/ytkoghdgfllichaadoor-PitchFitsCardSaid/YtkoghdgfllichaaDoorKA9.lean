import Derived.Test.YtkoghdgfllichaaDoorKAA
namespace Go.Proofs.YtkoghdgfllichaaDoor
open Go.RowKit

def SrPost (f : Int → Int) (lo : Int) (e : Ending) : Prop :=
  ((f lo < 0 ∨ 0 ≤ f 1000000000001) ∧ e = .returned (.tuple #[.int .i64 0, .bool false, .int .i64 7])) ∨
  (¬ (f lo < 0 ∨ 0 ≤ f 1000000000001) ∧ ∃ m : Int, lo ≤ m ∧ m ≤ 1000000000000 ∧ 0 ≤ f m ∧ f (m + 1) < 0 ∧ e = .returned (.tuple #[.int .i64 m, .bool (f m == 0), .int .i64 0]))
def SrRel (I : World → Prop) (f : Int → Int) (lo : Int) (lv av : Value) (wr : World) : Prop :=
  ∃ a b : Int, lv = .int .i64 a ∧ av = .int .i64 b ∧ lo ≤ a ∧ a < b ∧ b ≤ 1000000000001 ∧ 0 ≤ f a ∧ f b < 0 ∧ I wr
def srM : Value → Value → Nat
  | .int _ a, .int _ b => (b - a).toNat
  | _, _ => 0
set_option maxRecDepth 100000 in
set_option maxHeartbeats 400000 in
theorem search_floor (c1 c2 : Value) (I : World → Prop) (f : Int → Int) (lo : Int) (w : World) (h1 : -1000000000000 ≤ lo) (h2 : lo ≤ 0) (hd : ∀ W n, I W → I (W.drewN n))
    (hc : ∀ k W, lo ≤ k → k ≤ 1000000000001 → I W → Calls Tryd.prog 79 #[.int .i64 k, c1, c2] W fun e w' => e = .returned (.int .i64 (f k)) ∧ I w') (hI : I w) :
    Calls Tryd.prog 78 #[.int .i64 lo, .func (.func 79) #[] #[c1, c2]] w fun e w' => SrPost f lo e ∧ I w' := by
  have HC := Lib.hid hc
  have HD := Lib.hid hd
  clear hc hd
  go_enter Tryd.func78, Tryd.ntmps78
  go_wp2_with fail
  refine (HC.out lo w (by omega) (by omega) hI).mono ?_
  rintro e w1 ⟨he, hI1⟩
  subst he
  by_cases hf : f lo < 0
  · have HF := Lib.hid hf
    go_wp2
    first
      | go_ret3
      | go_ret
    exact ⟨.inl ⟨.inl HF.out, rfl⟩, hI1⟩
  go_wp2_with fail
  refine (HC.out 1000000000001 w1 (by omega) (by omega) hI1).mono ?_
  rintro e w2 ⟨he, hI2⟩
  subst he
  by_cases hg : 0 ≤ f 1000000000001
  · have HG := Lib.hid hg
    go_wp2
    first
      | go_ret3
      | go_ret
    exact ⟨.inl ⟨.inr HG.out, rfl⟩, hI2⟩
  have HF := Lib.hid hf
  have HG := Lib.hid hg
  go_wp2
  clear hf hg hI hI1
  go_loopw [7, 8] (fun lv av wr => SrRel I f lo lv av wr) (fun lv av _ => srM lv av)
  case atStart => exact ⟨lo, 1000000000001, rfl, rfl, Int.le_refl _, by omega, Int.le_refl _, HF.out, HG.out, hI2⟩
  case round =>
    obtain ⟨a, b, rfl, rfl, ha, hab, hb, hfa, hfb, hIr⟩ := hrel
    have HFA := Lib.hid hfa
    have HFB := Lib.hid hfb
    clear hfa hfb
    by_cases h1b : 1 < b - a
    · have s1 : IntKind.i64.wrap (b - a) = b - a := IntWalk.i64_in _ (by omega)
      obtain ⟨M, hM⟩ : ∃ M : Int, a + (b - a) / 2 = M := ⟨_, rfl⟩
      have s3 : IntKind.i64.wrap M = M := IntWalk.i64_in _ (by omega)
      go_wp2_with fail
      refine (HC.out M wr (by omega) (by omega) hIr).mono ?_
      rintro e w3 ⟨he, hI3⟩
      subst he
      by_cases hfm : f M < 0
      · have HFM := Lib.hid hfm
        go_wp2
        exact ⟨⟨a, M, rfl, rfl, ha, by omega, by omega, HFA.out, HFM.out, hI3⟩, by show (M - a).toNat < (b - a).toNat; omega⟩
      · have HFM := Lib.hid hfm
        go_wp2
        exact ⟨⟨M, b, rfl, rfl, by omega, by omega, hb, by have := HFM.out; omega, HFB.out, hI3⟩, by show (b - M).toNat < (b - a).toNat; omega⟩
    · obtain rfl : b = a + 1 := by omega
      have s1 : a + 1 - a = 1 := by omega
      have s0 : IntKind.i64.wrap (a + 1 - a) = 1 := by rw [s1]; rfl
      go_wp2_with fail
      refine (HC.out a wr ha (by omega) hIr).mono ?_
      rintro e w3 ⟨he, hI3⟩
      subst he
      go_wp2
      go_ret3
      exact ⟨.inr ⟨by have := HF.out; have := HG.out; omega, a, ha, by omega, HFA.out, HFB.out, rfl⟩, hI3⟩
set_option maxRecDepth 100000 in
set_option maxHeartbeats 400000 in
theorem search_power (c1 c2 : Value) (I : World → Prop) (f : Int → Int) (lo : Int) (w : World) (h1 : -1000000000000 ≤ lo) (h2 : lo ≤ 0) (hd : ∀ W n, I W → I (W.drewN n))
    (hc : ∀ k W, lo ≤ k → k ≤ 1000000000001 → I W → Calls Tryd.prog 133 #[.int .i64 k, c1, c2] W fun e w' => e = .returned (.int .i64 (f k)) ∧ I w') (hI : I w) :
    Calls Tryd.prog 78 #[.int .i64 lo, .func (.func 133) #[] #[c1, c2]] w fun e w' => SrPost f lo e ∧ I w' := by
  have HC := Lib.hid hc
  have HD := Lib.hid hd
  clear hc hd
  go_enter Tryd.func78, Tryd.ntmps78
  go_wp2_with fail
  refine (HC.out lo w (by omega) (by omega) hI).mono ?_
  rintro e w1 ⟨he, hI1⟩
  subst he
  by_cases hf : f lo < 0
  · have HF := Lib.hid hf
    go_wp2
    first
      | go_ret3
      | go_ret
    exact ⟨.inl ⟨.inl HF.out, rfl⟩, hI1⟩
  go_wp2_with fail
  refine (HC.out 1000000000001 w1 (by omega) (by omega) hI1).mono ?_
  rintro e w2 ⟨he, hI2⟩
  subst he
  by_cases hg : 0 ≤ f 1000000000001
  · have HG := Lib.hid hg
    go_wp2
    first
      | go_ret3
      | go_ret
    exact ⟨.inl ⟨.inr HG.out, rfl⟩, hI2⟩
  have HF := Lib.hid hf
  have HG := Lib.hid hg
  go_wp2
  clear hf hg hI hI1
  go_loopw [7, 8] (fun lv av wr => SrRel I f lo lv av wr) (fun lv av _ => srM lv av)
  case atStart => exact ⟨lo, 1000000000001, rfl, rfl, Int.le_refl _, by omega, Int.le_refl _, HF.out, HG.out, hI2⟩
  case round =>
    obtain ⟨a, b, rfl, rfl, ha, hab, hb, hfa, hfb, hIr⟩ := hrel
    have HFA := Lib.hid hfa
    have HFB := Lib.hid hfb
    clear hfa hfb
    by_cases h1b : 1 < b - a
    · have s1 : IntKind.i64.wrap (b - a) = b - a := IntWalk.i64_in _ (by omega)
      obtain ⟨M, hM⟩ : ∃ M : Int, a + (b - a) / 2 = M := ⟨_, rfl⟩
      have s3 : IntKind.i64.wrap M = M := IntWalk.i64_in _ (by omega)
      go_wp2_with fail
      refine (HC.out M wr (by omega) (by omega) hIr).mono ?_
      rintro e w3 ⟨he, hI3⟩
      subst he
      by_cases hfm : f M < 0
      · have HFM := Lib.hid hfm
        go_wp2
        exact ⟨⟨a, M, rfl, rfl, ha, by omega, by omega, HFA.out, HFM.out, hI3⟩, by show (M - a).toNat < (b - a).toNat; omega⟩
      · have HFM := Lib.hid hfm
        go_wp2
        exact ⟨⟨M, b, rfl, rfl, by omega, by omega, hb, by have := HFM.out; omega, HFB.out, hI3⟩, by show (b - M).toNat < (b - a).toNat; omega⟩
    · obtain rfl : b = a + 1 := by omega
      have s1 : a + 1 - a = 1 := by omega
      have s0 : IntKind.i64.wrap (a + 1 - a) = 1 := by rw [s1]; rfl
      go_wp2_with fail
      refine (HC.out a wr ha (by omega) hIr).mono ?_
      rintro e w3 ⟨he, hI3⟩
      subst he
      go_wp2
      go_ret3
      exact ⟨.inr ⟨by have := HF.out; have := HG.out; omega, a, ha, by omega, HFA.out, HFB.out, rfl⟩, hI3⟩
end Go.Proofs.YtkoghdgfllichaaDoor
