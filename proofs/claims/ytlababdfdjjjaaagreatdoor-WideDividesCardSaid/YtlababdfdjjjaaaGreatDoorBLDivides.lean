import Derived.Test.YtlababdfdjjjaaaGreatDoorB0
namespace Go.Proofs.YtlababdfdjjjaaaGreatDoor
open Go.RowKit

set_option maxRecDepth 100000 in
set_option maxHeartbeats 16000000 in
theorem lawWideDivides_any (va vb : Value) (la lb : List Nat) (w : World) (hT : Tabs w) (ha : Arg w va la) (hb : Arg w vb lb) :
    Calls Tryz.prog 7 #[va, vb] w fun e w' => e = .returned (.bool true) ∧ Below w.heap.size w w' := by
  have hl1 := ha.2
  have hl2 := hb.2
  obtain ⟨A, capa, rfl, -⟩ := ha.1.form
  obtain ⟨B, capb, rfl, -⟩ := hb.1.form
  have H1 : Hid (∀ W, Below w.heap.size w W → Calls Tryz.prog 40 #[.slice A la.length capa, .slice B lb.length capb] W fun e w' => ∃ q r, e = .returned (.tuple #[q, r, .int .i64 (divW la lb).2.2]) ∧ Arg w' q (dg (divW la lb).1) ∧ Arg w' r (dg (divW la lb).2.1) ∧ Below W.heap.size W w') := Lib.hid fun W hW => cDiv _ _ la lb W (ha.up hW) (hb.up hW)
  have R1 : Hid (∀ W, Below w.heap.size w W → Calls Tryz.prog 41 #[.slice A la.length capa, .slice B lb.length capb] W fun e w' => ∃ q r, e = .returned (.tuple #[q, r, .int .i64 (divW la lb).2.2]) ∧ Arg w' q (dg (divW la lb).1) ∧ Arg w' r (dg (divW la lb).2.1) ∧ Below W.heap.size W w') := Lib.hid fun W hW => rcDiv _ _ la lb W (ha.up hW) (hb.up hW)
  generalize (divW la lb).2.2 = e1 at *
  generalize dg (divW la lb).1 = L1 at *
  generalize dg (divW la lb).2.1 = M1 at *
  have H2 : Hid (∀ W, Below w.heap.size w W → Calls Tryz.prog 42 #[.slice A la.length capa, .slice B lb.length capb] W fun e w' => ∃ v, e = .returned (.tuple #[v, .int .i64 (gcdW la lb).2]) ∧ Arg w' v (dg (gcdW la lb).1) ∧ Below W.heap.size W w') := Lib.hid fun W hW => cGcd _ _ la lb W (ha.up hW) (hb.up hW)
  have R2 : Hid (∀ W, Below w.heap.size w W → Calls Tryz.prog 43 #[.slice A la.length capa, .slice B lb.length capb] W fun e w' => ∃ v, e = .returned (.tuple #[v, .int .i64 (gcdW la lb).2]) ∧ Arg w' v (dg (gcdW la lb).1) ∧ Below W.heap.size W w') := Lib.hid fun W hW => rcGcd _ _ la lb W (ha.up hW) (hb.up hW)
  generalize (gcdW la lb).2 = e2 at *
  generalize dg (gcdW la lb).1 = L2 at *
  have HT := Lib.hid hT
  have HB := Lib.hid (Below.refl w.heap.size w)
  clear ha hb hT
  generalize la.length = n1 at *
  generalize lb.length = n2 at *
  have p1 : n1 ≤ 12 ∨ (12 < n1 ∧ n1 ≤ 512) ∨ (512 < n1 ∧ n1 ≤ 520) ∨ 520 < n1 := by omega
  have p2 : n2 ≤ 12 ∨ (12 < n2 ∧ n2 ≤ 512) ∨ (512 < n2 ∧ n2 ≤ 520) ∨ 520 < n2 := by omega
  rcases p1 with p1 | p1 | p1 | p1
  · have t10 : ¬ (12 : Int) < (n1 : Int) := by omega
    have t11 : (n1 : Int) ≤ 512 := by omega
    have t12 : ¬ (520 : Int) < (n1 : Int) := by omega
    clear p1
    rcases p2 with p2 | p2 | p2 | p2
    · have t20 : ¬ (12 : Int) < (n2 : Int) := by omega
      have t21 : (n2 : Int) ≤ 512 := by omega
      have t22 : ¬ (520 : Int) < (n2 : Int) := by omega
      clear p2 hl1 hl2
      go_enter Tryz.func7, Tryz.ntmps7
      go_wp2_with fail
      refine (H1.out _ HB.out).mono ?_
      rintro e w1 ⟨qC, rC, he, hC1, hC2, hb⟩
      subst he
      have HB' := Lib.hid (HB.out.trans (hb.mono HB.out.size))
      clear HB
      have HB := HB'
      clear HB'
      clear hb
      have C1 := Lib.hid hC1
      clear hC1
      have C2 := Lib.hid hC2
      clear hC2
      go_wp2_with fail
      refine (R1.out _ HB.out).mono ?_
      rintro e w2 ⟨qD, rD, he, hD1, hD2, hb⟩
      subst he
      have C1' := Lib.hid (C1.out.up hb)
      clear C1
      have C1 := C1'
      clear C1'
      have C2' := Lib.hid (C2.out.up hb)
      clear C2
      have C2 := C2'
      clear C2'
      have HB' := Lib.hid (HB.out.trans (hb.mono HB.out.size))
      clear HB
      have HB := HB'
      clear HB'
      clear hb
      have D1 := Lib.hid hD1
      clear hD1
      have D2 := Lib.hid hD2
      clear hD2
      go_wp2_with fail
      refine (H2.out _ HB.out).mono ?_
      rintro e w3 ⟨gC, he, hC3, hb⟩
      subst he
      have C1' := Lib.hid (C1.out.up hb)
      clear C1
      have C1 := C1'
      clear C1'
      have C2' := Lib.hid (C2.out.up hb)
      clear C2
      have C2 := C2'
      clear C2'
      have D1' := Lib.hid (D1.out.up hb)
      clear D1
      have D1 := D1'
      clear D1'
      have D2' := Lib.hid (D2.out.up hb)
      clear D2
      have D2 := D2'
      clear D2'
      have HB' := Lib.hid (HB.out.trans (hb.mono HB.out.size))
      clear HB
      have HB := HB'
      clear HB'
      clear hb
      have C3 := Lib.hid hC3
      clear hC3
      go_wp2_with fail
      refine (R2.out _ HB.out).mono ?_
      rintro e w4 ⟨gD, he, hD3, hb⟩
      subst he
      have C1' := Lib.hid (C1.out.up hb)
      clear C1
      have C1 := C1'
      clear C1'
      have C2' := Lib.hid (C2.out.up hb)
      clear C2
      have C2 := C2'
      clear C2'
      have D1' := Lib.hid (D1.out.up hb)
      clear D1
      have D1 := D1'
      clear D1'
      have D2' := Lib.hid (D2.out.up hb)
      clear D2
      have D2 := D2'
      clear D2'
      have C3' := Lib.hid (C3.out.up hb)
      clear C3
      have C3 := C3'
      clear C3'
      have HB' := Lib.hid (HB.out.trans (hb.mono HB.out.size))
      clear HB
      have HB := HB'
      clear HB'
      clear hb
      have D3 := Lib.hid hD3
      clear hD3
      go_wp2_with fail
      refine (aw_same _ _ _ _ C1.out D1.out).mono ?_
      rintro e w5 ⟨he, hb⟩
      subst he
      have C1' := Lib.hid (C1.out.up hb)
      clear C1
      have C1 := C1'
      clear C1'
      have C2' := Lib.hid (C2.out.up hb)
      clear C2
      have C2 := C2'
      clear C2'
      have D1' := Lib.hid (D1.out.up hb)
      clear D1
      have D1 := D1'
      clear D1'
      have D2' := Lib.hid (D2.out.up hb)
      clear D2
      have D2 := D2'
      clear D2'
      have C3' := Lib.hid (C3.out.up hb)
      clear C3
      have C3 := C3'
      clear C3'
      have D3' := Lib.hid (D3.out.up hb)
      clear D3
      have D3 := D3'
      clear D3'
      have HB' := Lib.hid (HB.out.trans (hb.mono HB.out.size))
      clear HB
      have HB := HB'
      clear HB'
      clear hb
      go_wp2_with fail
      refine (aw_same _ _ _ _ C2.out D2.out).mono ?_
      rintro e w6 ⟨he, hb⟩
      subst he
      have C1' := Lib.hid (C1.out.up hb)
      clear C1
      have C1 := C1'
      clear C1'
      have C2' := Lib.hid (C2.out.up hb)
      clear C2
      have C2 := C2'
      clear C2'
      have D1' := Lib.hid (D1.out.up hb)
      clear D1
      have D1 := D1'
      clear D1'
      have D2' := Lib.hid (D2.out.up hb)
      clear D2
      have D2 := D2'
      clear D2'
      have C3' := Lib.hid (C3.out.up hb)
      clear C3
      have C3 := C3'
      clear C3'
      have D3' := Lib.hid (D3.out.up hb)
      clear D3
      have D3 := D3'
      clear D3'
      have HB' := Lib.hid (HB.out.trans (hb.mono HB.out.size))
      clear HB
      have HB := HB'
      clear HB'
      clear hb
      go_wp2_with fail
      refine (aw_same _ _ _ _ C3.out D3.out).mono ?_
      rintro e w7 ⟨he, hb⟩
      subst he
      have C1' := Lib.hid (C1.out.up hb)
      clear C1
      have C1 := C1'
      clear C1'
      have C2' := Lib.hid (C2.out.up hb)
      clear C2
      have C2 := C2'
      clear C2'
      have D1' := Lib.hid (D1.out.up hb)
      clear D1
      have D1 := D1'
      clear D1'
      have D2' := Lib.hid (D2.out.up hb)
      clear D2
      have D2 := D2'
      clear D2'
      have C3' := Lib.hid (C3.out.up hb)
      clear C3
      have C3 := C3'
      clear C3'
      have D3' := Lib.hid (D3.out.up hb)
      clear D3
      have D3 := D3'
      clear D3'
      have HB' := Lib.hid (HB.out.trans (hb.mono HB.out.size))
      clear HB
      have HB := HB'
      clear HB'
      clear hb
      go_wp2_with fail
      refine (awake_any _ (HT.out.below HB.out)).mono ?_
      rintro e w8 ⟨he, hb⟩
      subst he
      go_wp2_with fail
      go_ret
      exact ⟨rfl, HB.out.trans (hb.mono HB.out.size)⟩
    · have t20 : (12 : Int) < (n2 : Int) := by omega
      have t21 : (n2 : Int) ≤ 512 := by omega
      have t22 : ¬ (520 : Int) < (n2 : Int) := by omega
      clear p2 hl1 hl2
      go_enter Tryz.func7, Tryz.ntmps7
      go_wp2_with fail
      refine (awake_any _ (HT.out.below HB.out)).mono ?_
      rintro e w1 ⟨he, hb⟩
      subst he
      go_wp2_with fail
      go_ret
      exact ⟨rfl, HB.out.trans (hb.mono HB.out.size)⟩
    · have t20 : (12 : Int) < (n2 : Int) := by omega
      have t21 : ¬ (n2 : Int) ≤ 512 := by omega
      have t22 : ¬ (520 : Int) < (n2 : Int) := by omega
      clear p2 hl1 hl2
      go_enter Tryz.func7, Tryz.ntmps7
      go_wp2_with fail
      refine (H1.out _ HB.out).mono ?_
      rintro e w1 ⟨qC, rC, he, hC1, hC2, hb⟩
      subst he
      have HB' := Lib.hid (HB.out.trans (hb.mono HB.out.size))
      clear HB
      have HB := HB'
      clear HB'
      clear hb
      have C1 := Lib.hid hC1
      clear hC1
      have C2 := Lib.hid hC2
      clear hC2
      go_wp2_with fail
      refine (R1.out _ HB.out).mono ?_
      rintro e w2 ⟨qD, rD, he, hD1, hD2, hb⟩
      subst he
      have C1' := Lib.hid (C1.out.up hb)
      clear C1
      have C1 := C1'
      clear C1'
      have C2' := Lib.hid (C2.out.up hb)
      clear C2
      have C2 := C2'
      clear C2'
      have HB' := Lib.hid (HB.out.trans (hb.mono HB.out.size))
      clear HB
      have HB := HB'
      clear HB'
      clear hb
      have D1 := Lib.hid hD1
      clear hD1
      have D2 := Lib.hid hD2
      clear hD2
      go_wp2_with fail
      refine (H2.out _ HB.out).mono ?_
      rintro e w3 ⟨gC, he, hC3, hb⟩
      subst he
      have C1' := Lib.hid (C1.out.up hb)
      clear C1
      have C1 := C1'
      clear C1'
      have C2' := Lib.hid (C2.out.up hb)
      clear C2
      have C2 := C2'
      clear C2'
      have D1' := Lib.hid (D1.out.up hb)
      clear D1
      have D1 := D1'
      clear D1'
      have D2' := Lib.hid (D2.out.up hb)
      clear D2
      have D2 := D2'
      clear D2'
      have HB' := Lib.hid (HB.out.trans (hb.mono HB.out.size))
      clear HB
      have HB := HB'
      clear HB'
      clear hb
      have C3 := Lib.hid hC3
      clear hC3
      go_wp2_with fail
      refine (R2.out _ HB.out).mono ?_
      rintro e w4 ⟨gD, he, hD3, hb⟩
      subst he
      have C1' := Lib.hid (C1.out.up hb)
      clear C1
      have C1 := C1'
      clear C1'
      have C2' := Lib.hid (C2.out.up hb)
      clear C2
      have C2 := C2'
      clear C2'
      have D1' := Lib.hid (D1.out.up hb)
      clear D1
      have D1 := D1'
      clear D1'
      have D2' := Lib.hid (D2.out.up hb)
      clear D2
      have D2 := D2'
      clear D2'
      have C3' := Lib.hid (C3.out.up hb)
      clear C3
      have C3 := C3'
      clear C3'
      have HB' := Lib.hid (HB.out.trans (hb.mono HB.out.size))
      clear HB
      have HB := HB'
      clear HB'
      clear hb
      have D3 := Lib.hid hD3
      clear hD3
      go_wp2_with fail
      refine (aw_same _ _ _ _ C1.out D1.out).mono ?_
      rintro e w5 ⟨he, hb⟩
      subst he
      have C1' := Lib.hid (C1.out.up hb)
      clear C1
      have C1 := C1'
      clear C1'
      have C2' := Lib.hid (C2.out.up hb)
      clear C2
      have C2 := C2'
      clear C2'
      have D1' := Lib.hid (D1.out.up hb)
      clear D1
      have D1 := D1'
      clear D1'
      have D2' := Lib.hid (D2.out.up hb)
      clear D2
      have D2 := D2'
      clear D2'
      have C3' := Lib.hid (C3.out.up hb)
      clear C3
      have C3 := C3'
      clear C3'
      have D3' := Lib.hid (D3.out.up hb)
      clear D3
      have D3 := D3'
      clear D3'
      have HB' := Lib.hid (HB.out.trans (hb.mono HB.out.size))
      clear HB
      have HB := HB'
      clear HB'
      clear hb
      go_wp2_with fail
      refine (aw_same _ _ _ _ C2.out D2.out).mono ?_
      rintro e w6 ⟨he, hb⟩
      subst he
      have C1' := Lib.hid (C1.out.up hb)
      clear C1
      have C1 := C1'
      clear C1'
      have C2' := Lib.hid (C2.out.up hb)
      clear C2
      have C2 := C2'
      clear C2'
      have D1' := Lib.hid (D1.out.up hb)
      clear D1
      have D1 := D1'
      clear D1'
      have D2' := Lib.hid (D2.out.up hb)
      clear D2
      have D2 := D2'
      clear D2'
      have C3' := Lib.hid (C3.out.up hb)
      clear C3
      have C3 := C3'
      clear C3'
      have D3' := Lib.hid (D3.out.up hb)
      clear D3
      have D3 := D3'
      clear D3'
      have HB' := Lib.hid (HB.out.trans (hb.mono HB.out.size))
      clear HB
      have HB := HB'
      clear HB'
      clear hb
      go_wp2_with fail
      refine (aw_same _ _ _ _ C3.out D3.out).mono ?_
      rintro e w7 ⟨he, hb⟩
      subst he
      have C1' := Lib.hid (C1.out.up hb)
      clear C1
      have C1 := C1'
      clear C1'
      have C2' := Lib.hid (C2.out.up hb)
      clear C2
      have C2 := C2'
      clear C2'
      have D1' := Lib.hid (D1.out.up hb)
      clear D1
      have D1 := D1'
      clear D1'
      have D2' := Lib.hid (D2.out.up hb)
      clear D2
      have D2 := D2'
      clear D2'
      have C3' := Lib.hid (C3.out.up hb)
      clear C3
      have C3 := C3'
      clear C3'
      have D3' := Lib.hid (D3.out.up hb)
      clear D3
      have D3 := D3'
      clear D3'
      have HB' := Lib.hid (HB.out.trans (hb.mono HB.out.size))
      clear HB
      have HB := HB'
      clear HB'
      clear hb
      go_wp2_with fail
      refine (awake_any _ (HT.out.below HB.out)).mono ?_
      rintro e w8 ⟨he, hb⟩
      subst he
      go_wp2_with fail
      go_ret
      exact ⟨rfl, HB.out.trans (hb.mono HB.out.size)⟩
    · have t20 : (12 : Int) < (n2 : Int) := by omega
      have t21 : ¬ (n2 : Int) ≤ 512 := by omega
      have t22 : (520 : Int) < (n2 : Int) := by omega
      clear p2 hl1 hl2
      go_enter Tryz.func7, Tryz.ntmps7
      go_wp2_with fail
      refine (awake_any _ (HT.out.below HB.out)).mono ?_
      rintro e w1 ⟨he, hb⟩
      subst he
      go_wp2_with fail
      go_ret
      exact ⟨rfl, HB.out.trans (hb.mono HB.out.size)⟩
  · have t10 : (12 : Int) < (n1 : Int) := by omega
    have t11 : (n1 : Int) ≤ 512 := by omega
    have t12 : ¬ (520 : Int) < (n1 : Int) := by omega
    clear p1
    rcases p2 with p2 | p2 | p2 | p2
    · have t20 : ¬ (12 : Int) < (n2 : Int) := by omega
      have t21 : (n2 : Int) ≤ 512 := by omega
      have t22 : ¬ (520 : Int) < (n2 : Int) := by omega
      clear p2 hl1 hl2
      go_enter Tryz.func7, Tryz.ntmps7
      go_wp2_with fail
      refine (awake_any _ (HT.out.below HB.out)).mono ?_
      rintro e w1 ⟨he, hb⟩
      subst he
      go_wp2_with fail
      go_ret
      exact ⟨rfl, HB.out.trans (hb.mono HB.out.size)⟩
    · have t20 : (12 : Int) < (n2 : Int) := by omega
      have t21 : (n2 : Int) ≤ 512 := by omega
      have t22 : ¬ (520 : Int) < (n2 : Int) := by omega
      clear p2 hl1 hl2
      go_enter Tryz.func7, Tryz.ntmps7
      go_wp2_with fail
      refine (awake_any _ (HT.out.below HB.out)).mono ?_
      rintro e w1 ⟨he, hb⟩
      subst he
      go_wp2_with fail
      go_ret
      exact ⟨rfl, HB.out.trans (hb.mono HB.out.size)⟩
    · have t20 : (12 : Int) < (n2 : Int) := by omega
      have t21 : ¬ (n2 : Int) ≤ 512 := by omega
      have t22 : ¬ (520 : Int) < (n2 : Int) := by omega
      clear p2 hl1 hl2
      go_enter Tryz.func7, Tryz.ntmps7
      go_wp2_with fail
      refine (awake_any _ (HT.out.below HB.out)).mono ?_
      rintro e w1 ⟨he, hb⟩
      subst he
      go_wp2_with fail
      go_ret
      exact ⟨rfl, HB.out.trans (hb.mono HB.out.size)⟩
    · have t20 : (12 : Int) < (n2 : Int) := by omega
      have t21 : ¬ (n2 : Int) ≤ 512 := by omega
      have t22 : (520 : Int) < (n2 : Int) := by omega
      clear p2 hl1 hl2
      go_enter Tryz.func7, Tryz.ntmps7
      go_wp2_with fail
      refine (awake_any _ (HT.out.below HB.out)).mono ?_
      rintro e w1 ⟨he, hb⟩
      subst he
      go_wp2_with fail
      go_ret
      exact ⟨rfl, HB.out.trans (hb.mono HB.out.size)⟩
  · have t10 : (12 : Int) < (n1 : Int) := by omega
    have t11 : ¬ (n1 : Int) ≤ 512 := by omega
    have t12 : ¬ (520 : Int) < (n1 : Int) := by omega
    clear p1
    rcases p2 with p2 | p2 | p2 | p2
    · have t20 : ¬ (12 : Int) < (n2 : Int) := by omega
      have t21 : (n2 : Int) ≤ 512 := by omega
      have t22 : ¬ (520 : Int) < (n2 : Int) := by omega
      clear p2 hl1 hl2
      go_enter Tryz.func7, Tryz.ntmps7
      go_wp2_with fail
      refine (H1.out _ HB.out).mono ?_
      rintro e w1 ⟨qC, rC, he, hC1, hC2, hb⟩
      subst he
      have HB' := Lib.hid (HB.out.trans (hb.mono HB.out.size))
      clear HB
      have HB := HB'
      clear HB'
      clear hb
      have C1 := Lib.hid hC1
      clear hC1
      have C2 := Lib.hid hC2
      clear hC2
      go_wp2_with fail
      refine (R1.out _ HB.out).mono ?_
      rintro e w2 ⟨qD, rD, he, hD1, hD2, hb⟩
      subst he
      have C1' := Lib.hid (C1.out.up hb)
      clear C1
      have C1 := C1'
      clear C1'
      have C2' := Lib.hid (C2.out.up hb)
      clear C2
      have C2 := C2'
      clear C2'
      have HB' := Lib.hid (HB.out.trans (hb.mono HB.out.size))
      clear HB
      have HB := HB'
      clear HB'
      clear hb
      have D1 := Lib.hid hD1
      clear hD1
      have D2 := Lib.hid hD2
      clear hD2
      go_wp2_with fail
      refine (H2.out _ HB.out).mono ?_
      rintro e w3 ⟨gC, he, hC3, hb⟩
      subst he
      have C1' := Lib.hid (C1.out.up hb)
      clear C1
      have C1 := C1'
      clear C1'
      have C2' := Lib.hid (C2.out.up hb)
      clear C2
      have C2 := C2'
      clear C2'
      have D1' := Lib.hid (D1.out.up hb)
      clear D1
      have D1 := D1'
      clear D1'
      have D2' := Lib.hid (D2.out.up hb)
      clear D2
      have D2 := D2'
      clear D2'
      have HB' := Lib.hid (HB.out.trans (hb.mono HB.out.size))
      clear HB
      have HB := HB'
      clear HB'
      clear hb
      have C3 := Lib.hid hC3
      clear hC3
      go_wp2_with fail
      refine (R2.out _ HB.out).mono ?_
      rintro e w4 ⟨gD, he, hD3, hb⟩
      subst he
      have C1' := Lib.hid (C1.out.up hb)
      clear C1
      have C1 := C1'
      clear C1'
      have C2' := Lib.hid (C2.out.up hb)
      clear C2
      have C2 := C2'
      clear C2'
      have D1' := Lib.hid (D1.out.up hb)
      clear D1
      have D1 := D1'
      clear D1'
      have D2' := Lib.hid (D2.out.up hb)
      clear D2
      have D2 := D2'
      clear D2'
      have C3' := Lib.hid (C3.out.up hb)
      clear C3
      have C3 := C3'
      clear C3'
      have HB' := Lib.hid (HB.out.trans (hb.mono HB.out.size))
      clear HB
      have HB := HB'
      clear HB'
      clear hb
      have D3 := Lib.hid hD3
      clear hD3
      go_wp2_with fail
      refine (aw_same _ _ _ _ C1.out D1.out).mono ?_
      rintro e w5 ⟨he, hb⟩
      subst he
      have C1' := Lib.hid (C1.out.up hb)
      clear C1
      have C1 := C1'
      clear C1'
      have C2' := Lib.hid (C2.out.up hb)
      clear C2
      have C2 := C2'
      clear C2'
      have D1' := Lib.hid (D1.out.up hb)
      clear D1
      have D1 := D1'
      clear D1'
      have D2' := Lib.hid (D2.out.up hb)
      clear D2
      have D2 := D2'
      clear D2'
      have C3' := Lib.hid (C3.out.up hb)
      clear C3
      have C3 := C3'
      clear C3'
      have D3' := Lib.hid (D3.out.up hb)
      clear D3
      have D3 := D3'
      clear D3'
      have HB' := Lib.hid (HB.out.trans (hb.mono HB.out.size))
      clear HB
      have HB := HB'
      clear HB'
      clear hb
      go_wp2_with fail
      refine (aw_same _ _ _ _ C2.out D2.out).mono ?_
      rintro e w6 ⟨he, hb⟩
      subst he
      have C1' := Lib.hid (C1.out.up hb)
      clear C1
      have C1 := C1'
      clear C1'
      have C2' := Lib.hid (C2.out.up hb)
      clear C2
      have C2 := C2'
      clear C2'
      have D1' := Lib.hid (D1.out.up hb)
      clear D1
      have D1 := D1'
      clear D1'
      have D2' := Lib.hid (D2.out.up hb)
      clear D2
      have D2 := D2'
      clear D2'
      have C3' := Lib.hid (C3.out.up hb)
      clear C3
      have C3 := C3'
      clear C3'
      have D3' := Lib.hid (D3.out.up hb)
      clear D3
      have D3 := D3'
      clear D3'
      have HB' := Lib.hid (HB.out.trans (hb.mono HB.out.size))
      clear HB
      have HB := HB'
      clear HB'
      clear hb
      go_wp2_with fail
      refine (aw_same _ _ _ _ C3.out D3.out).mono ?_
      rintro e w7 ⟨he, hb⟩
      subst he
      have C1' := Lib.hid (C1.out.up hb)
      clear C1
      have C1 := C1'
      clear C1'
      have C2' := Lib.hid (C2.out.up hb)
      clear C2
      have C2 := C2'
      clear C2'
      have D1' := Lib.hid (D1.out.up hb)
      clear D1
      have D1 := D1'
      clear D1'
      have D2' := Lib.hid (D2.out.up hb)
      clear D2
      have D2 := D2'
      clear D2'
      have C3' := Lib.hid (C3.out.up hb)
      clear C3
      have C3 := C3'
      clear C3'
      have D3' := Lib.hid (D3.out.up hb)
      clear D3
      have D3 := D3'
      clear D3'
      have HB' := Lib.hid (HB.out.trans (hb.mono HB.out.size))
      clear HB
      have HB := HB'
      clear HB'
      clear hb
      go_wp2_with fail
      refine (awake_any _ (HT.out.below HB.out)).mono ?_
      rintro e w8 ⟨he, hb⟩
      subst he
      go_wp2_with fail
      go_ret
      exact ⟨rfl, HB.out.trans (hb.mono HB.out.size)⟩
    · have t20 : (12 : Int) < (n2 : Int) := by omega
      have t21 : (n2 : Int) ≤ 512 := by omega
      have t22 : ¬ (520 : Int) < (n2 : Int) := by omega
      clear p2 hl1 hl2
      go_enter Tryz.func7, Tryz.ntmps7
      go_wp2_with fail
      refine (awake_any _ (HT.out.below HB.out)).mono ?_
      rintro e w1 ⟨he, hb⟩
      subst he
      go_wp2_with fail
      go_ret
      exact ⟨rfl, HB.out.trans (hb.mono HB.out.size)⟩
    · have t20 : (12 : Int) < (n2 : Int) := by omega
      have t21 : ¬ (n2 : Int) ≤ 512 := by omega
      have t22 : ¬ (520 : Int) < (n2 : Int) := by omega
      clear p2 hl1 hl2
      go_enter Tryz.func7, Tryz.ntmps7
      go_wp2_with fail
      refine (H1.out _ HB.out).mono ?_
      rintro e w1 ⟨qC, rC, he, hC1, hC2, hb⟩
      subst he
      have HB' := Lib.hid (HB.out.trans (hb.mono HB.out.size))
      clear HB
      have HB := HB'
      clear HB'
      clear hb
      have C1 := Lib.hid hC1
      clear hC1
      have C2 := Lib.hid hC2
      clear hC2
      go_wp2_with fail
      refine (R1.out _ HB.out).mono ?_
      rintro e w2 ⟨qD, rD, he, hD1, hD2, hb⟩
      subst he
      have C1' := Lib.hid (C1.out.up hb)
      clear C1
      have C1 := C1'
      clear C1'
      have C2' := Lib.hid (C2.out.up hb)
      clear C2
      have C2 := C2'
      clear C2'
      have HB' := Lib.hid (HB.out.trans (hb.mono HB.out.size))
      clear HB
      have HB := HB'
      clear HB'
      clear hb
      have D1 := Lib.hid hD1
      clear hD1
      have D2 := Lib.hid hD2
      clear hD2
      go_wp2_with fail
      refine (H2.out _ HB.out).mono ?_
      rintro e w3 ⟨gC, he, hC3, hb⟩
      subst he
      have C1' := Lib.hid (C1.out.up hb)
      clear C1
      have C1 := C1'
      clear C1'
      have C2' := Lib.hid (C2.out.up hb)
      clear C2
      have C2 := C2'
      clear C2'
      have D1' := Lib.hid (D1.out.up hb)
      clear D1
      have D1 := D1'
      clear D1'
      have D2' := Lib.hid (D2.out.up hb)
      clear D2
      have D2 := D2'
      clear D2'
      have HB' := Lib.hid (HB.out.trans (hb.mono HB.out.size))
      clear HB
      have HB := HB'
      clear HB'
      clear hb
      have C3 := Lib.hid hC3
      clear hC3
      go_wp2_with fail
      refine (R2.out _ HB.out).mono ?_
      rintro e w4 ⟨gD, he, hD3, hb⟩
      subst he
      have C1' := Lib.hid (C1.out.up hb)
      clear C1
      have C1 := C1'
      clear C1'
      have C2' := Lib.hid (C2.out.up hb)
      clear C2
      have C2 := C2'
      clear C2'
      have D1' := Lib.hid (D1.out.up hb)
      clear D1
      have D1 := D1'
      clear D1'
      have D2' := Lib.hid (D2.out.up hb)
      clear D2
      have D2 := D2'
      clear D2'
      have C3' := Lib.hid (C3.out.up hb)
      clear C3
      have C3 := C3'
      clear C3'
      have HB' := Lib.hid (HB.out.trans (hb.mono HB.out.size))
      clear HB
      have HB := HB'
      clear HB'
      clear hb
      have D3 := Lib.hid hD3
      clear hD3
      go_wp2_with fail
      refine (aw_same _ _ _ _ C1.out D1.out).mono ?_
      rintro e w5 ⟨he, hb⟩
      subst he
      have C1' := Lib.hid (C1.out.up hb)
      clear C1
      have C1 := C1'
      clear C1'
      have C2' := Lib.hid (C2.out.up hb)
      clear C2
      have C2 := C2'
      clear C2'
      have D1' := Lib.hid (D1.out.up hb)
      clear D1
      have D1 := D1'
      clear D1'
      have D2' := Lib.hid (D2.out.up hb)
      clear D2
      have D2 := D2'
      clear D2'
      have C3' := Lib.hid (C3.out.up hb)
      clear C3
      have C3 := C3'
      clear C3'
      have D3' := Lib.hid (D3.out.up hb)
      clear D3
      have D3 := D3'
      clear D3'
      have HB' := Lib.hid (HB.out.trans (hb.mono HB.out.size))
      clear HB
      have HB := HB'
      clear HB'
      clear hb
      go_wp2_with fail
      refine (aw_same _ _ _ _ C2.out D2.out).mono ?_
      rintro e w6 ⟨he, hb⟩
      subst he
      have C1' := Lib.hid (C1.out.up hb)
      clear C1
      have C1 := C1'
      clear C1'
      have C2' := Lib.hid (C2.out.up hb)
      clear C2
      have C2 := C2'
      clear C2'
      have D1' := Lib.hid (D1.out.up hb)
      clear D1
      have D1 := D1'
      clear D1'
      have D2' := Lib.hid (D2.out.up hb)
      clear D2
      have D2 := D2'
      clear D2'
      have C3' := Lib.hid (C3.out.up hb)
      clear C3
      have C3 := C3'
      clear C3'
      have D3' := Lib.hid (D3.out.up hb)
      clear D3
      have D3 := D3'
      clear D3'
      have HB' := Lib.hid (HB.out.trans (hb.mono HB.out.size))
      clear HB
      have HB := HB'
      clear HB'
      clear hb
      go_wp2_with fail
      refine (aw_same _ _ _ _ C3.out D3.out).mono ?_
      rintro e w7 ⟨he, hb⟩
      subst he
      have C1' := Lib.hid (C1.out.up hb)
      clear C1
      have C1 := C1'
      clear C1'
      have C2' := Lib.hid (C2.out.up hb)
      clear C2
      have C2 := C2'
      clear C2'
      have D1' := Lib.hid (D1.out.up hb)
      clear D1
      have D1 := D1'
      clear D1'
      have D2' := Lib.hid (D2.out.up hb)
      clear D2
      have D2 := D2'
      clear D2'
      have C3' := Lib.hid (C3.out.up hb)
      clear C3
      have C3 := C3'
      clear C3'
      have D3' := Lib.hid (D3.out.up hb)
      clear D3
      have D3 := D3'
      clear D3'
      have HB' := Lib.hid (HB.out.trans (hb.mono HB.out.size))
      clear HB
      have HB := HB'
      clear HB'
      clear hb
      go_wp2_with fail
      refine (awake_any _ (HT.out.below HB.out)).mono ?_
      rintro e w8 ⟨he, hb⟩
      subst he
      go_wp2_with fail
      go_ret
      exact ⟨rfl, HB.out.trans (hb.mono HB.out.size)⟩
    · have t20 : (12 : Int) < (n2 : Int) := by omega
      have t21 : ¬ (n2 : Int) ≤ 512 := by omega
      have t22 : (520 : Int) < (n2 : Int) := by omega
      clear p2 hl1 hl2
      go_enter Tryz.func7, Tryz.ntmps7
      go_wp2_with fail
      refine (awake_any _ (HT.out.below HB.out)).mono ?_
      rintro e w1 ⟨he, hb⟩
      subst he
      go_wp2_with fail
      go_ret
      exact ⟨rfl, HB.out.trans (hb.mono HB.out.size)⟩
  · have t10 : (12 : Int) < (n1 : Int) := by omega
    have t11 : ¬ (n1 : Int) ≤ 512 := by omega
    have t12 : (520 : Int) < (n1 : Int) := by omega
    clear p1
    rcases p2 with p2 | p2 | p2 | p2
    · have t20 : ¬ (12 : Int) < (n2 : Int) := by omega
      have t21 : (n2 : Int) ≤ 512 := by omega
      have t22 : ¬ (520 : Int) < (n2 : Int) := by omega
      clear p2 hl1 hl2
      go_enter Tryz.func7, Tryz.ntmps7
      go_wp2_with fail
      refine (awake_any _ (HT.out.below HB.out)).mono ?_
      rintro e w1 ⟨he, hb⟩
      subst he
      go_wp2_with fail
      go_ret
      exact ⟨rfl, HB.out.trans (hb.mono HB.out.size)⟩
    · have t20 : (12 : Int) < (n2 : Int) := by omega
      have t21 : (n2 : Int) ≤ 512 := by omega
      have t22 : ¬ (520 : Int) < (n2 : Int) := by omega
      clear p2 hl1 hl2
      go_enter Tryz.func7, Tryz.ntmps7
      go_wp2_with fail
      refine (awake_any _ (HT.out.below HB.out)).mono ?_
      rintro e w1 ⟨he, hb⟩
      subst he
      go_wp2_with fail
      go_ret
      exact ⟨rfl, HB.out.trans (hb.mono HB.out.size)⟩
    · have t20 : (12 : Int) < (n2 : Int) := by omega
      have t21 : ¬ (n2 : Int) ≤ 512 := by omega
      have t22 : ¬ (520 : Int) < (n2 : Int) := by omega
      clear p2 hl1 hl2
      go_enter Tryz.func7, Tryz.ntmps7
      go_wp2_with fail
      refine (awake_any _ (HT.out.below HB.out)).mono ?_
      rintro e w1 ⟨he, hb⟩
      subst he
      go_wp2_with fail
      go_ret
      exact ⟨rfl, HB.out.trans (hb.mono HB.out.size)⟩
    · have t20 : (12 : Int) < (n2 : Int) := by omega
      have t21 : ¬ (n2 : Int) ≤ 512 := by omega
      have t22 : (520 : Int) < (n2 : Int) := by omega
      clear p2 hl1 hl2
      go_enter Tryz.func7, Tryz.ntmps7
      go_wp2_with fail
      refine (awake_any _ (HT.out.below HB.out)).mono ?_
      rintro e w1 ⟨he, hb⟩
      subst he
      go_wp2_with fail
      go_ret
      exact ⟨rfl, HB.out.trans (hb.mono HB.out.size)⟩
end Go.Proofs.YtlababdfdjjjaaaGreatDoor
