import Derived.Test.YtkoghdgfllichaaDoorG0
import Derived.Test.YtkoghdgfllichaaDoorRO1
namespace Go.Proofs.YtkoghdgfllichaaDoor
open Go.RowKit

theorem within_yes (n a b : Int) (w : World) (h1 : a ≤ n) (h2 : n ≤ b) : Calls Tryd.prog 77 #[.int .i64 n, .int .i64 a, .int .i64 b] w fun e w' => e = .returned (.bool true) ∧ w = w' := by
  go_enter Tryd.func77, Tryd.ntmps77
  go_wp2
  go_ret
  exact ⟨rfl, rfl⟩
theorem within_no (n a b : Int) (w : World) (h : n < a ∨ b < n) : Calls Tryd.prog 77 #[.int .i64 n, .int .i64 a, .int .i64 b] w fun e w' => e = .returned (.bool false) ∧ w = w' := by
  by_cases h1 : a ≤ n
  · have h2 : ¬ n ≤ b := by omega
    clear h
    go_enter Tryd.func77, Tryd.ntmps77
    go_wp2
    go_ret
    exact ⟨rfl, rfl⟩
  · clear h
    go_enter Tryd.func77, Tryd.ntmps77
    go_wp2
    go_ret
    exact ⟨rfl, rfl⟩
def wiB (n a b : Int) : Bool := decide (a ≤ n) && decide (n ≤ b)
theorem within_any (n a b : Int) (w : World) : Calls Tryd.prog 77 #[.int .i64 n, .int .i64 a, .int .i64 b] w fun e w' => e = .returned (.bool (wiB n a b)) ∧ w = w' := by
  by_cases h : a ≤ n ∧ n ≤ b
  · have e : wiB n a b = true := by unfold wiB; rw [decide_eq_true h.1, decide_eq_true h.2]; rfl
    rw [e]; exact within_yes n a b w h.1 h.2
  · have e : wiB n a b = false := by
      unfold wiB
      rw [Bool.and_eq_false_iff, decide_eq_false_iff_not, decide_eq_false_iff_not]
      omega
    rw [e]; exact within_no n a b w (by omega)
theorem gcd_step (x y : Int) : Nat.gcd y.natAbs (x.tmod y).natAbs = Nat.gcd x.natAbs y.natAbs := by
  rw [Int.natAbs_tmod, Nat.gcd_comm x.natAbs, Nat.gcd_rec y.natAbs x.natAbs, Nat.gcd_comm]
def GcRel (w : World) (G : Nat) (M : Int) (va vb : Value) (wr : World) : Prop := ∃ x y : Int, va = .int .i64 x ∧ vb = .int .i64 y ∧ -M ≤ x ∧ x ≤ M ∧ -M ≤ y ∧ y ≤ M ∧ Nat.gcd x.natAbs y.natAbs = G ∧ Drawn w wr
def mAbs : Value → Nat
  | .int _ n => n.natAbs
  | _ => 0
set_option maxHeartbeats 1000000 in
theorem gcd_int64 (a b M : Int) (w : World) (h1 : -M ≤ a) (h2 : a ≤ M) (h3 : -M ≤ b) (h4 : b ≤ M) (hM : M ≤ 9223372036854775807) :
    Calls Tryd.prog 113 #[.int .i64 a, .int .i64 b] w fun e w' => e = .returned (.int .i64 ((Nat.gcd a.natAbs b.natAbs : Nat) : Int)) ∧ Drawn w w' := by
  obtain ⟨G, hG⟩ : ∃ G, G = Nat.gcd a.natAbs b.natAbs := ⟨_, rfl⟩
  rw [← hG]
  have HG := Lib.hid hG.symm
  clear hG
  go_enter Tryd.func113, Tryd.ntmps113
  go_wp2
  go_loopw [0, 1] (fun va vb wr => GcRel w G M va vb wr) (fun _ vb _ => mAbs vb)
  case atStart => exact ⟨a, b, rfl, rfl, h1, h2, h3, h4, HG.out, Drawn.refl w⟩
  case round =>
    obtain ⟨x, y, rfl, rfl, x1, x2, y1, y2, hg, hdr⟩ := hrel
    have HH := Lib.hid hg
    have HDR := Lib.hid hdr
    clear hg hdr
    by_cases hy : y = 0
    · subst hy
      have hxG : (G : Int) = max x (-x) := by
        have h := HH.out
        rw [Int.natAbs_zero, Nat.gcd_zero_right] at h
        omega
      have HX := Lib.hid hxG
      clear hxG
      go_wp2
      all_goals
        go_ret
        exact ⟨ret_int (by have := HX.out; omega), HDR.out⟩
    · have q1 : (y == 0) = false := beq_false_of_ne hy
      have q2 : (y != 0) = true := by simp [hy]
      have hst := gcd_step x y
      rw [HH.out] at hst
      have hlt : (x.tmod y).natAbs < y.natAbs := by rw [Int.natAbs_tmod]; exact Nat.mod_lt _ (by omega)
      have HST := Lib.hid hst
      have HLT := Lib.hid hlt
      clear hst hlt
      go_wp2
      go_quiet (fail)
      go_wp2
      first
        | exact ⟨⟨y, _, rfl, rfl, y1, y2, by have := HLT.out; omega, by have := HLT.out; omega, HST.out, HDR.out.trans ⟨_, rfl⟩⟩, HLT.out⟩
        | (go_roundw
           case rel => exact ⟨y, _, rfl, rfl, y1, y2, by have := HLT.out; omega, by have := HLT.out; omega, HST.out, HDR.out.trans ⟨_, rfl⟩⟩
           case measure => exact HLT.out)
set_option maxHeartbeats 1000000 in
theorem gcd_int (a b M : Int) (w : World) (h1 : -M ≤ a) (h2 : a ≤ M) (h3 : -M ≤ b) (h4 : b ≤ M) (hM : M ≤ 9223372036854775807) :
    Calls Tryd.prog 110 #[.int .i64 a, .int .i64 b] w fun e w' => e = .returned (.int .i64 ((Nat.gcd a.natAbs b.natAbs : Nat) : Int)) ∧ Drawn w w' := by
  obtain ⟨G, hG⟩ : ∃ G, G = Nat.gcd a.natAbs b.natAbs := ⟨_, rfl⟩
  rw [← hG]
  have HG := Lib.hid hG.symm
  clear hG
  go_enter Tryd.func110, Tryd.ntmps110
  go_wp2
  go_loopw [0, 1] (fun va vb wr => GcRel w G M va vb wr) (fun _ vb _ => mAbs vb)
  case atStart => exact ⟨a, b, rfl, rfl, h1, h2, h3, h4, HG.out, Drawn.refl w⟩
  case round =>
    obtain ⟨x, y, rfl, rfl, x1, x2, y1, y2, hg, hdr⟩ := hrel
    have HH := Lib.hid hg
    have HDR := Lib.hid hdr
    clear hg hdr
    by_cases hy : y = 0
    · subst hy
      have hxG : (G : Int) = max x (-x) := by
        have h := HH.out
        rw [Int.natAbs_zero, Nat.gcd_zero_right] at h
        omega
      have HX := Lib.hid hxG
      clear hxG
      go_wp2
      all_goals
        go_ret
        exact ⟨ret_int (by have := HX.out; omega), HDR.out⟩
    · have q1 : (y == 0) = false := beq_false_of_ne hy
      have q2 : (y != 0) = true := by simp [hy]
      have hst := gcd_step x y
      rw [HH.out] at hst
      have hlt : (x.tmod y).natAbs < y.natAbs := by rw [Int.natAbs_tmod]; exact Nat.mod_lt _ (by omega)
      have HST := Lib.hid hst
      have HLT := Lib.hid hlt
      clear hst hlt
      go_wp2
      go_quiet (fail)
      go_wp2
      first
        | exact ⟨⟨y, _, rfl, rfl, y1, y2, by have := HLT.out; omega, by have := HLT.out; omega, HST.out, HDR.out.trans ⟨_, rfl⟩⟩, HLT.out⟩
        | (go_roundw
           case rel => exact ⟨y, _, rfl, rfl, y1, y2, by have := HLT.out; omega, by have := HLT.out; omega, HST.out, HDR.out.trans ⟨_, rfl⟩⟩
           case measure => exact HLT.out)
end Go.Proofs.YtkoghdgfllichaaDoor
