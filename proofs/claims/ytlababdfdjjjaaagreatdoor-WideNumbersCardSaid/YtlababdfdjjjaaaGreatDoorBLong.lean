import Derived.Test.YtlababdfdjjjaaaGreatDoorA1
namespace Go.Proofs.YtlababdfdjjjaaaGreatDoor
open Go.RowKit

/-! Arguments that are longer than is looked at. -/
set_option maxRecDepth 100000 in
set_option maxHeartbeats 16000000 in
theorem longWideNumbers_any (n : Int) (A : Option Addr) (n1 capa : Nat) (w : World) (hT : Tabs w) (h : 520 < n1) (hm : n1 ≤ maxLen) :
    Calls Tryz.prog 3 #[.int .u64 n, .slice A n1 capa] w fun e w' => e = .returned (.bool true) ∧ Below w.heap.size w w' := by
  have HT := Lib.hid hT
  have HB := Lib.hid (Below.refl w.heap.size w)
  clear hT
  have t1 : (520 : Int) < (n1 : Int) := by omega
  clear h
  go_enter Tryz.func3, Tryz.ntmps3
  go_wp2_with fail
  refine (awake_any _ (HT.out.below HB.out)).mono ?_
  rintro e w1 ⟨he, hb⟩
  subst he
  go_wp2_with fail
  go_ret
  exact ⟨rfl, HB.out.trans (hb.mono HB.out.size)⟩
set_option maxRecDepth 100000 in
set_option maxHeartbeats 16000000 in
theorem longWidePowers_any (A : Option Addr) (n1 capa : Nat) (k : Int) (w : World) (hT : Tabs w) (h : 520 < n1) (hm : n1 ≤ maxLen) :
    Calls Tryz.prog 8 #[.slice A n1 capa, .int .i64 k] w fun e w' => e = .returned (.bool true) ∧ Below w.heap.size w w' := by
  have HT := Lib.hid hT
  have HB := Lib.hid (Below.refl w.heap.size w)
  clear hT
  have t10 : (6 : Int) < (n1 : Int) := by omega
  have t11 : ¬ (n1 : Int) ≤ 512 := by omega
  have t12 : (520 : Int) < (n1 : Int) := by omega
  clear h
  go_enter Tryz.func8, Tryz.ntmps8
  go_wp2_with fail
  refine (awake_any _ (HT.out.below HB.out)).mono ?_
  rintro e w1 ⟨he, hb⟩
  subst he
  go_wp2_with fail
  go_ret
  exact ⟨rfl, HB.out.trans (hb.mono HB.out.size)⟩
set_option maxRecDepth 100000 in
set_option maxHeartbeats 16000000 in
theorem longWideDivides_any (A B : Option Addr) (n1 capa n2 capb : Nat) (w : World) (hT : Tabs w) (h : 520 < n1 ∨ 520 < n2) (hm1 : n1 ≤ maxLen) (hm2 : n2 ≤ maxLen) :
    Calls Tryz.prog 7 #[.slice A n1 capa, .slice B n2 capb] w fun e w' => e = .returned (.bool true) ∧ Below w.heap.size w w' := by
  have HT := Lib.hid hT
  have HB := Lib.hid (Below.refl w.heap.size w)
  clear hT
  have p1 : n1 ≤ 12 ∨ (12 < n1 ∧ n1 ≤ 512) ∨ (512 < n1 ∧ n1 ≤ 520) ∨ 520 < n1 := by omega
  have p2 : n2 ≤ 12 ∨ (12 < n2 ∧ n2 ≤ 512) ∨ (512 < n2 ∧ n2 ≤ 520) ∨ 520 < n2 := by omega
  rcases p1 with p1 | p1 | p1 | p1
  · have t10 : ¬ (12 : Int) < (n1 : Int) := by omega
    have t11 : (n1 : Int) ≤ 512 := by omega
    have t12 : ¬ (520 : Int) < (n1 : Int) := by omega
    rcases p2 with p2 | p2 | p2 | p2
    · exfalso; omega
    · exfalso; omega
    · exfalso; omega
    · have t20 : (12 : Int) < (n2 : Int) := by omega
      have t21 : ¬ (n2 : Int) ≤ 512 := by omega
      have t22 : (520 : Int) < (n2 : Int) := by omega
      clear p1 p2 h
      go_enter Tryz.func7, Tryz.ntmps7
      go_wp2_with fail
      refine (awake_any _ (HT.out.below HB.out)).mono ?_
      rintro e w1 ⟨he, hb⟩
      subst he
      go_wp2_with fail
      go_ret
      exact ⟨rfl, HB.out.trans (hb.mono HB.out.size)⟩
  · have t10 : (12 : Int) < (n1 : Int) := by omega
    have t11 : (n1 : Int) ≤ 512 := by omega
    have t12 : ¬ (520 : Int) < (n1 : Int) := by omega
    rcases p2 with p2 | p2 | p2 | p2
    · exfalso; omega
    · exfalso; omega
    · exfalso; omega
    · have t20 : (12 : Int) < (n2 : Int) := by omega
      have t21 : ¬ (n2 : Int) ≤ 512 := by omega
      have t22 : (520 : Int) < (n2 : Int) := by omega
      clear p1 p2 h
      go_enter Tryz.func7, Tryz.ntmps7
      go_wp2_with fail
      refine (awake_any _ (HT.out.below HB.out)).mono ?_
      rintro e w1 ⟨he, hb⟩
      subst he
      go_wp2_with fail
      go_ret
      exact ⟨rfl, HB.out.trans (hb.mono HB.out.size)⟩
  · have t10 : (12 : Int) < (n1 : Int) := by omega
    have t11 : ¬ (n1 : Int) ≤ 512 := by omega
    have t12 : ¬ (520 : Int) < (n1 : Int) := by omega
    rcases p2 with p2 | p2 | p2 | p2
    · exfalso; omega
    · exfalso; omega
    · exfalso; omega
    · have t20 : (12 : Int) < (n2 : Int) := by omega
      have t21 : ¬ (n2 : Int) ≤ 512 := by omega
      have t22 : (520 : Int) < (n2 : Int) := by omega
      clear p1 p2 h
      go_enter Tryz.func7, Tryz.ntmps7
      go_wp2_with fail
      refine (awake_any _ (HT.out.below HB.out)).mono ?_
      rintro e w1 ⟨he, hb⟩
      subst he
      go_wp2_with fail
      go_ret
      exact ⟨rfl, HB.out.trans (hb.mono HB.out.size)⟩
  · have t10 : (12 : Int) < (n1 : Int) := by omega
    have t11 : ¬ (n1 : Int) ≤ 512 := by omega
    have t12 : (520 : Int) < (n1 : Int) := by omega
    rcases p2 with p2 | p2 | p2 | p2
    · have t20 : ¬ (12 : Int) < (n2 : Int) := by omega
      have t21 : (n2 : Int) ≤ 512 := by omega
      have t22 : ¬ (520 : Int) < (n2 : Int) := by omega
      clear p1 p2 h
      go_enter Tryz.func7, Tryz.ntmps7
      go_wp2_with fail
      refine (awake_any _ (HT.out.below HB.out)).mono ?_
      rintro e w1 ⟨he, hb⟩
      subst he
      go_wp2_with fail
      go_ret
      exact ⟨rfl, HB.out.trans (hb.mono HB.out.size)⟩
    · have t20 : (12 : Int) < (n2 : Int) := by omega
      have t21 : (n2 : Int) ≤ 512 := by omega
      have t22 : ¬ (520 : Int) < (n2 : Int) := by omega
      clear p1 p2 h
      go_enter Tryz.func7, Tryz.ntmps7
      go_wp2_with fail
      refine (awake_any _ (HT.out.below HB.out)).mono ?_
      rintro e w1 ⟨he, hb⟩
      subst he
      go_wp2_with fail
      go_ret
      exact ⟨rfl, HB.out.trans (hb.mono HB.out.size)⟩
    · have t20 : (12 : Int) < (n2 : Int) := by omega
      have t21 : ¬ (n2 : Int) ≤ 512 := by omega
      have t22 : ¬ (520 : Int) < (n2 : Int) := by omega
      clear p1 p2 h
      go_enter Tryz.func7, Tryz.ntmps7
      go_wp2_with fail
      refine (awake_any _ (HT.out.below HB.out)).mono ?_
      rintro e w1 ⟨he, hb⟩
      subst he
      go_wp2_with fail
      go_ret
      exact ⟨rfl, HB.out.trans (hb.mono HB.out.size)⟩
    · have t20 : (12 : Int) < (n2 : Int) := by omega
      have t21 : ¬ (n2 : Int) ≤ 512 := by omega
      have t22 : (520 : Int) < (n2 : Int) := by omega
      clear p1 p2 h
      go_enter Tryz.func7, Tryz.ntmps7
      go_wp2_with fail
      refine (awake_any _ (HT.out.below HB.out)).mono ?_
      rintro e w1 ⟨he, hb⟩
      subst he
      go_wp2_with fail
      go_ret
      exact ⟨rfl, HB.out.trans (hb.mono HB.out.size)⟩
end Go.Proofs.YtlababdfdjjjaaaGreatDoor
