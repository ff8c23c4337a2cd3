import Derived.Test.YtlababdfdjjjaaaGreatDoorB0
namespace Go.Proofs.YtlababdfdjjjaaaGreatDoor
open Go.RowKit

set_option maxRecDepth 100000 in
set_option maxHeartbeats 16000000 in
theorem lawWideAdds_any (va vb : Value) (la lb : List Nat) (w : World) (hT : Tabs w) (fa : FarOk w va 260 la) (fb : FarOk w vb 260 lb) :
    Calls Tryz.prog 6 #[va, vb] w fun e w' => e = .returned (.bool true) ∧ Below w.heap.size w w' := by
  have HT := Lib.hid hT
  have HB := Lib.hid (Below.refl w.heap.size w)
  obtain ⟨b1, hf1, hg1⟩ := fa
  obtain ⟨b2, hf2, hg2⟩ := fb
  have F1 := Lib.hid hf1
  have F2 := Lib.hid hf2
  have G1 := Lib.hid hg1
  have G2 := Lib.hid hg2
  clear hf1 hf2 hg1 hg2 hT
  go_enter Tryz.func6, Tryz.ntmps6
  go_wp2_with fail
  refine (F1.out _).mono ?_
  rintro e w0 ⟨he, rfl⟩
  subst he
  cases b1
  · go_wp2_with fail
    refine (F2.out _).mono ?_
    rintro e w0' ⟨he, rfl⟩
    subst he
    cases b2
    · have ha := G1.out (by trivial)
      have hb := G2.out (by trivial)
      clear G1 G2
      have H1 : Hid (∀ W, Below w.heap.size w W → Calls Tryz.prog 34 #[va, vb] W fun e w' => ∃ v, e = .returned (.tuple #[v, .int .i64 (addW la lb).2]) ∧ Arg w' v (dg (addW la lb).1) ∧ Below W.heap.size W w') := Lib.hid fun W hW => cAdd va vb la lb W (ha.up hW) (hb.up hW)
      have R1 : Hid (∀ W, Below w.heap.size w W → Calls Tryz.prog 35 #[va, vb] W fun e w' => ∃ v, e = .returned (.tuple #[v, .int .i64 (addW la lb).2]) ∧ Arg w' v (dg (addW la lb).1) ∧ Below W.heap.size W w') := Lib.hid fun W hW => rcAdd va vb la lb W (ha.up hW) (hb.up hW)
      generalize (addW la lb).2 = e1 at *
      generalize dg (addW la lb).1 = L1 at *
      have H2 : Hid (∀ W, Below w.heap.size w W → Calls Tryz.prog 36 #[va, vb] W fun e w' => ∃ v, e = .returned (.tuple #[v, .int .i64 (subW la lb).2]) ∧ Arg w' v (dg (subW la lb).1) ∧ Below W.heap.size W w') := Lib.hid fun W hW => cSub va vb la lb W (ha.up hW) (hb.up hW)
      have R2 : Hid (∀ W, Below w.heap.size w W → Calls Tryz.prog 37 #[va, vb] W fun e w' => ∃ v, e = .returned (.tuple #[v, .int .i64 (subW la lb).2]) ∧ Arg w' v (dg (subW la lb).1) ∧ Below W.heap.size W w') := Lib.hid fun W hW => rcSub va vb la lb W (ha.up hW) (hb.up hW)
      generalize (subW la lb).2 = e2 at *
      generalize dg (subW la lb).1 = L2 at *
      have H3 : Hid (∀ W, Below w.heap.size w W → Calls Tryz.prog 38 #[va, vb] W fun e w' => ∃ v, e = .returned (.tuple #[v, .int .i64 (mulW la lb).2]) ∧ Arg w' v (dg (mulW la lb).1) ∧ Below W.heap.size W w') := Lib.hid fun W hW => cMul va vb la lb W (ha.up hW) (hb.up hW)
      have R3 : Hid (∀ W, Below w.heap.size w W → Calls Tryz.prog 39 #[va, vb] W fun e w' => ∃ v, e = .returned (.tuple #[v, .int .i64 (mulW la lb).2]) ∧ Arg w' v (dg (mulW la lb).1) ∧ Below W.heap.size W w') := Lib.hid fun W hW => rcMul va vb la lb W (ha.up hW) (hb.up hW)
      generalize (mulW la lb).2 = e3 at *
      generalize dg (mulW la lb).1 = L3 at *
      clear ha hb
      go_wp2_with fail
      refine (H1.out _ HB.out).mono ?_
      rintro e w1 ⟨v1, he, hC1, hb⟩
      subst he
      have HB' := Lib.hid (HB.out.trans (hb.mono HB.out.size))
      clear HB
      have HB := HB'
      clear HB'
      clear hb
      have C1 := Lib.hid hC1
      clear hC1
      go_wp2_with fail
      refine (R1.out _ HB.out).mono ?_
      rintro e w2 ⟨u1, he, hD1, hb⟩
      subst he
      have C1' := Lib.hid (C1.out.up hb)
      clear C1
      have C1 := C1'
      clear C1'
      have HB' := Lib.hid (HB.out.trans (hb.mono HB.out.size))
      clear HB
      have HB := HB'
      clear HB'
      clear hb
      have D1 := Lib.hid hD1
      clear hD1
      go_wp2_with fail
      refine (H2.out _ HB.out).mono ?_
      rintro e w3 ⟨v2, he, hC2, hb⟩
      subst he
      have C1' := Lib.hid (C1.out.up hb)
      clear C1
      have C1 := C1'
      clear C1'
      have D1' := Lib.hid (D1.out.up hb)
      clear D1
      have D1 := D1'
      clear D1'
      have HB' := Lib.hid (HB.out.trans (hb.mono HB.out.size))
      clear HB
      have HB := HB'
      clear HB'
      clear hb
      have C2 := Lib.hid hC2
      clear hC2
      go_wp2_with fail
      refine (R2.out _ HB.out).mono ?_
      rintro e w4 ⟨u2, he, hD2, hb⟩
      subst he
      have C1' := Lib.hid (C1.out.up hb)
      clear C1
      have C1 := C1'
      clear C1'
      have D1' := Lib.hid (D1.out.up hb)
      clear D1
      have D1 := D1'
      clear D1'
      have C2' := Lib.hid (C2.out.up hb)
      clear C2
      have C2 := C2'
      clear C2'
      have HB' := Lib.hid (HB.out.trans (hb.mono HB.out.size))
      clear HB
      have HB := HB'
      clear HB'
      clear hb
      have D2 := Lib.hid hD2
      clear hD2
      go_wp2_with fail
      refine (H3.out _ HB.out).mono ?_
      rintro e w5 ⟨v3, he, hC3, hb⟩
      subst he
      have C1' := Lib.hid (C1.out.up hb)
      clear C1
      have C1 := C1'
      clear C1'
      have D1' := Lib.hid (D1.out.up hb)
      clear D1
      have D1 := D1'
      clear D1'
      have C2' := Lib.hid (C2.out.up hb)
      clear C2
      have C2 := C2'
      clear C2'
      have D2' := Lib.hid (D2.out.up hb)
      clear D2
      have D2 := D2'
      clear D2'
      have HB' := Lib.hid (HB.out.trans (hb.mono HB.out.size))
      clear HB
      have HB := HB'
      clear HB'
      clear hb
      have C3 := Lib.hid hC3
      clear hC3
      go_wp2_with fail
      refine (R3.out _ HB.out).mono ?_
      rintro e w6 ⟨u3, he, hD3, hb⟩
      subst he
      have C1' := Lib.hid (C1.out.up hb)
      clear C1
      have C1 := C1'
      clear C1'
      have D1' := Lib.hid (D1.out.up hb)
      clear D1
      have D1 := D1'
      clear D1'
      have C2' := Lib.hid (C2.out.up hb)
      clear C2
      have C2 := C2'
      clear C2'
      have D2' := Lib.hid (D2.out.up hb)
      clear D2
      have D2 := D2'
      clear D2'
      have C3' := Lib.hid (C3.out.up hb)
      clear C3
      have C3 := C3'
      clear C3'
      have HB' := Lib.hid (HB.out.trans (hb.mono HB.out.size))
      clear HB
      have HB := HB'
      clear HB'
      clear hb
      have D3 := Lib.hid hD3
      clear hD3
      go_wp2_with fail
      refine (aw_same _ _ _ _ C1.out D1.out).mono ?_
      rintro e w7 ⟨he, hb⟩
      subst he
      have C1' := Lib.hid (C1.out.up hb)
      clear C1
      have C1 := C1'
      clear C1'
      have D1' := Lib.hid (D1.out.up hb)
      clear D1
      have D1 := D1'
      clear D1'
      have C2' := Lib.hid (C2.out.up hb)
      clear C2
      have C2 := C2'
      clear C2'
      have D2' := Lib.hid (D2.out.up hb)
      clear D2
      have D2 := D2'
      clear D2'
      have C3' := Lib.hid (C3.out.up hb)
      clear C3
      have C3 := C3'
      clear C3'
      have D3' := Lib.hid (D3.out.up hb)
      clear D3
      have D3 := D3'
      clear D3'
      have HB' := Lib.hid (HB.out.trans (hb.mono HB.out.size))
      clear HB
      have HB := HB'
      clear HB'
      clear hb
      go_wp2_with fail
      refine (aw_same _ _ _ _ C2.out D2.out).mono ?_
      rintro e w8 ⟨he, hb⟩
      subst he
      have C1' := Lib.hid (C1.out.up hb)
      clear C1
      have C1 := C1'
      clear C1'
      have D1' := Lib.hid (D1.out.up hb)
      clear D1
      have D1 := D1'
      clear D1'
      have C2' := Lib.hid (C2.out.up hb)
      clear C2
      have C2 := C2'
      clear C2'
      have D2' := Lib.hid (D2.out.up hb)
      clear D2
      have D2 := D2'
      clear D2'
      have C3' := Lib.hid (C3.out.up hb)
      clear C3
      have C3 := C3'
      clear C3'
      have D3' := Lib.hid (D3.out.up hb)
      clear D3
      have D3 := D3'
      clear D3'
      have HB' := Lib.hid (HB.out.trans (hb.mono HB.out.size))
      clear HB
      have HB := HB'
      clear HB'
      clear hb
      go_wp2_with fail
      refine (aw_same _ _ _ _ C3.out D3.out).mono ?_
      rintro e w9 ⟨he, hb⟩
      subst he
      have C1' := Lib.hid (C1.out.up hb)
      clear C1
      have C1 := C1'
      clear C1'
      have D1' := Lib.hid (D1.out.up hb)
      clear D1
      have D1 := D1'
      clear D1'
      have C2' := Lib.hid (C2.out.up hb)
      clear C2
      have C2 := C2'
      clear C2'
      have D2' := Lib.hid (D2.out.up hb)
      clear D2
      have D2 := D2'
      clear D2'
      have C3' := Lib.hid (C3.out.up hb)
      clear C3
      have C3 := C3'
      clear C3'
      have D3' := Lib.hid (D3.out.up hb)
      clear D3
      have D3 := D3'
      clear D3'
      have HB' := Lib.hid (HB.out.trans (hb.mono HB.out.size))
      clear HB
      have HB := HB'
      clear HB'
      clear hb
      go_wp2_with fail
      refine (awake_any _ (HT.out.below HB.out)).mono ?_
      rintro e w10 ⟨he, hb⟩
      subst he
      go_wp2_with fail
      go_ret
      exact ⟨rfl, HB.out.trans (hb.mono HB.out.size)⟩
    · go_wp2_with fail
      refine (awake_any _ (HT.out.below HB.out)).mono ?_
      rintro e w1 ⟨he, hb⟩
      subst he
      go_wp2_with fail
      go_ret
      exact ⟨rfl, HB.out.trans (hb.mono HB.out.size)⟩
  · go_wp2_with fail
    refine (awake_any _ (HT.out.below HB.out)).mono ?_
    rintro e w1 ⟨he, hb⟩
    subst he
    go_wp2_with fail
    go_ret
    exact ⟨rfl, HB.out.trans (hb.mono HB.out.size)⟩
end Go.Proofs.YtlababdfdjjjaaaGreatDoor
