import Derived.Test.YtlababdfdjjjaaaGreatDoorB0
namespace Go.Proofs.YtlababdfdjjjaaaGreatDoor
open Go.RowKit

set_option maxRecDepth 100000 in
set_option maxHeartbeats 16000000 in
theorem lawWideOrders_any (va vb : Value) (la lb : List Nat) (n : Int) (w : World) (hT : Tabs w) (fa : FarOk w va 40 la) (fb : FarOk w vb 40 lb) :
    Calls Tryz.prog 5 #[va, vb, .int .i64 n] w fun e w' => e = .returned (.bool true) ∧ Below w.heap.size w w' := by
  have HT := Lib.hid hT
  have HB := Lib.hid (Below.refl w.heap.size w)
  obtain ⟨b1, hf1, hg1⟩ := fa
  obtain ⟨b2, hf2, hg2⟩ := fb
  have F1 := Lib.hid hf1
  have F2 := Lib.hid hf2
  have G1 := Lib.hid hg1
  have G2 := Lib.hid hg2
  clear hf1 hf2 hg1 hg2 hT
  go_enter Tryz.func5, Tryz.ntmps5
  go_wp2_with fail
  refine (F1.out _).mono ?_
  rintro e w0 ⟨he, rfl⟩
  subst he
  cases b1
  · go_wp2_with fail
    refine (F2.out _).mono ?_
    rintro e w0' ⟨he, rfl⟩
    subst he
    cases b2
    · have ha := G1.out (by trivial)
      have hb := G2.out (by trivial)
      clear G1 G2
      have H1 : Hid (∀ W, Below w.heap.size w W → Calls Tryz.prog 28 #[va, vb] W fun e w' => e = .returned (.tuple #[.int .i64 (cmpW la lb).1, .int .i64 (cmpW la lb).2]) ∧ Below W.heap.size W w') := Lib.hid fun W hW => Cmp_any va vb la lb W (ha.up hW) (hb.up hW)
      have R1 : Hid (∀ W, Below w.heap.size w W → Calls Tryz.prog 29 #[va, vb] W fun e w' => e = .returned (.tuple #[.int .i64 (cmpW la lb).1, .int .i64 (cmpW la lb).2]) ∧ Below W.heap.size W w') := Lib.hid fun W hW => rCmp_any va vb la lb W (ha.up hW) (hb.up hW)
      generalize (cmpW la lb).1 = c1 at *
      generalize (cmpW la lb).2 = e1 at *
      have H2 : Hid (∀ W, Below w.heap.size w W → Calls Tryz.prog 30 #[va] W fun e w' => e = .returned (.tuple #[.int .i64 ((bitsW la).1 : Int), .int .i64 (bitsW la).2]) ∧ Below W.heap.size W w') := Lib.hid fun W hW => Bits_any va la W (ha.up hW)
      have R2 : Hid (∀ W, Below w.heap.size w W → Calls Tryz.prog 31 #[va] W fun e w' => e = .returned (.tuple #[.int .i64 ((bitsW la).1 : Int), .int .i64 (bitsW la).2]) ∧ Below W.heap.size W w') := Lib.hid fun W hW => rBits_any va la W (ha.up hW)
      generalize (bitsW la).1 = c2 at *
      generalize (bitsW la).2 = e2 at *
      have H3 : Hid (∀ W, Below w.heap.size w W → Calls Tryz.prog 32 #[va, .int .i64 n] W fun e w' => ∃ v, e = .returned (.tuple #[v, .int .i64 (shiftW la n).2]) ∧ Arg w' v (dg (shiftW la n).1) ∧ Below W.heap.size W w') := Lib.hid fun W hW => cShift va la n W (ha.up hW)
      have R3 : Hid (∀ W, Below w.heap.size w W → Calls Tryz.prog 33 #[va, .int .i64 n] W fun e w' => ∃ v, e = .returned (.tuple #[v, .int .i64 (shiftW la n).2]) ∧ Arg w' v (dg (shiftW la n).1) ∧ Below W.heap.size W w') := Lib.hid fun W hW => rcShift va la n W (ha.up hW)
      generalize (shiftW la n).2 = e3 at *
      generalize dg (shiftW la n).1 = L3 at *
      clear ha hb
      go_wp2_with fail
      refine (H1.out _ HB.out).mono ?_
      rintro e w1 ⟨he, hb⟩
      subst he
      have HB' := Lib.hid (HB.out.trans (hb.mono HB.out.size))
      clear HB
      have HB := HB'
      clear HB'
      clear hb
      go_wp2_with fail
      refine (R1.out _ HB.out).mono ?_
      rintro e w2 ⟨he, hb⟩
      subst he
      have HB' := Lib.hid (HB.out.trans (hb.mono HB.out.size))
      clear HB
      have HB := HB'
      clear HB'
      clear hb
      go_wp2_with fail
      refine (H2.out _ HB.out).mono ?_
      rintro e w3 ⟨he, hb⟩
      subst he
      have HB' := Lib.hid (HB.out.trans (hb.mono HB.out.size))
      clear HB
      have HB := HB'
      clear HB'
      clear hb
      go_wp2_with fail
      refine (R2.out _ HB.out).mono ?_
      rintro e w4 ⟨he, hb⟩
      subst he
      have HB' := Lib.hid (HB.out.trans (hb.mono HB.out.size))
      clear HB
      have HB := HB'
      clear HB'
      clear hb
      go_wp2_with fail
      refine (H3.out _ HB.out).mono ?_
      rintro e w5 ⟨v3, he, hC3, hb⟩
      subst he
      have HB' := Lib.hid (HB.out.trans (hb.mono HB.out.size))
      clear HB
      have HB := HB'
      clear HB'
      clear hb
      have C3 := Lib.hid hC3
      clear hC3
      go_wp2_with fail
      refine (R3.out _ HB.out).mono ?_
      rintro e w6 ⟨u3, he, hD3, hb⟩
      subst he
      have C3' := Lib.hid (C3.out.up hb)
      clear C3
      have C3 := C3'
      clear C3'
      have HB' := Lib.hid (HB.out.trans (hb.mono HB.out.size))
      clear HB
      have HB := HB'
      clear HB'
      clear hb
      have D3 := Lib.hid hD3
      clear hD3
      go_wp2_with fail
      refine (aw_same _ _ _ _ C3.out D3.out).mono ?_
      rintro e w7 ⟨he, hb⟩
      subst he
      have C3' := Lib.hid (C3.out.up hb)
      clear C3
      have C3 := C3'
      clear C3'
      have D3' := Lib.hid (D3.out.up hb)
      clear D3
      have D3 := D3'
      clear D3'
      have HB' := Lib.hid (HB.out.trans (hb.mono HB.out.size))
      clear HB
      have HB := HB'
      clear HB'
      clear hb
      go_wp2_with fail
      refine (awake_any _ (HT.out.below HB.out)).mono ?_
      rintro e w8 ⟨he, hb⟩
      subst he
      go_wp2_with fail
      go_ret
      exact ⟨rfl, HB.out.trans (hb.mono HB.out.size)⟩
    · go_wp2_with fail
      refine (awake_any _ (HT.out.below HB.out)).mono ?_
      rintro e w1 ⟨he, hb⟩
      subst he
      go_wp2_with fail
      go_ret
      exact ⟨rfl, HB.out.trans (hb.mono HB.out.size)⟩
  · go_wp2_with fail
    refine (awake_any _ (HT.out.below HB.out)).mono ?_
    rintro e w1 ⟨he, hb⟩
    subst he
    go_wp2_with fail
    go_ret
    exact ⟨rfl, HB.out.trans (hb.mono HB.out.size)⟩
end Go.Proofs.YtlababdfdjjjaaaGreatDoor
