import Derived.Test.YtlababdfdjjjaaaGreatDoorB0
namespace Go.Proofs.YtlababdfdjjjaaaGreatDoor
open Go.RowKit

set_option maxRecDepth 100000 in
set_option maxHeartbeats 16000000 in
theorem lawWideNumbers_any (n : Nat) (va : Value) (la : List Nat) (w : World) (hT : Tabs w) (hn : n < 18446744073709551616) (ha : Arg w va la) :
    Calls Tryz.prog 3 #[.int .u64 (n : Int), va] w fun e w' => e = .returned (.bool true) ∧ Below w.heap.size w w' := by
  have hl1 := ha.2
  obtain ⟨A, capa, rfl, -⟩ := ha.1.form
  have H1 : Hid (∀ W, Below w.heap.size w W → Calls Tryz.prog 16 #[.slice A la.length capa] W fun e w' => e = .returned (.tuple #[.int .u64 ((smallW la).1 : Int), .int .i64 (smallW la).2]) ∧ Below W.heap.size W w') := Lib.hid fun W hW => Small_any _ la W (ha.up hW)
  have R1 : Hid (∀ W, Below w.heap.size w W → Calls Tryz.prog 17 #[.slice A la.length capa] W fun e w' => e = .returned (.tuple #[.int .u64 ((smallW la).1 : Int), .int .i64 (smallW la).2]) ∧ Below W.heap.size W w') := Lib.hid fun W hW => rSmall_any _ la W (ha.up hW)
  generalize (smallW la).1 = c1 at *
  generalize (smallW la).2 = e1 at *
  have H2 : Hid (∀ W, Below w.heap.size w W → Calls Tryz.prog 18 #[.slice A la.length capa] W fun e w' => e = .returned (.bool (validW la)) ∧ Below W.heap.size W w') := Lib.hid fun W hW => (validW_ex la) ▸ Valid_any _ la W (ha.up hW)
  have R2 : Hid (∀ W, Below w.heap.size w W → Calls Tryz.prog 19 #[.slice A la.length capa] W fun e w' => e = .returned (.bool (validW la)) ∧ Below W.heap.size W w') := Lib.hid fun W hW => (rValid_any _ la W (ha.up hW)).mono fun _ _ h => ⟨h.1, h.2.below⟩
  generalize validW la = b2 at *
  have hsm : (dg n).length ≤ 1000 := Nat.le_trans (dg_le.2 (show n < LB ^ 2 by simp [LB]; omega)) (by omega)
  have H3 : Hid (∀ W, Below w.heap.size w W → Calls Tryz.prog 21 #[.int .u64 (n : Int)] W fun e w' => ∃ v, e = .returned v ∧ Arg w' v (dg n) ∧ Below W.heap.size W w') := Lib.hid fun W _ => (of_any n hn W).mono fun _ _ ⟨v, he, h1, hb⟩ => ⟨v, he, num_arg h1 _ rfl hsm, hb⟩
  have R3 : Hid (∀ W, Below w.heap.size w W → Calls Tryz.prog 22 #[.int .u64 (n : Int)] W fun e w' => ∃ v, e = .returned v ∧ Arg w' v (dg n) ∧ Below W.heap.size W w') := Lib.hid fun W _ => (rof_any n hn W).mono fun _ _ ⟨v, he, h1, hb, _⟩ => ⟨v, he, num_arg h1 _ rfl hsm, hb⟩
  have HT := Lib.hid hT
  have HB := Lib.hid (Below.refl w.heap.size w)
  clear ha hT hsm
  generalize dg n = ln at *
  generalize la.length = n1 at *
  by_cases t1 : (520 : Int) < (n1 : Int)
  · clear hl1
    go_enter Tryz.func3, Tryz.ntmps3
    go_wp2_with fail
    refine (awake_any _ (HT.out.below HB.out)).mono ?_
    rintro e w1 ⟨he, hb⟩
    subst he
    go_wp2_with fail
    go_ret
    exact ⟨rfl, HB.out.trans (hb.mono HB.out.size)⟩
  · clear hl1
    go_enter Tryz.func3, Tryz.ntmps3
    go_wp2_with fail
    refine (H1.out _ HB.out).mono ?_
    rintro e w1 ⟨he, hb⟩
    subst he
    have HB' := Lib.hid (HB.out.trans (hb.mono HB.out.size))
    clear HB
    have HB := HB'
    clear HB'
    clear hb
    go_wp2_with fail
    refine (R1.out _ HB.out).mono ?_
    rintro e w2 ⟨he, hb⟩
    subst he
    have HB' := Lib.hid (HB.out.trans (hb.mono HB.out.size))
    clear HB
    have HB := HB'
    clear HB'
    clear hb
    go_wp2_with fail
    refine (H2.out _ HB.out).mono ?_
    rintro e w3 ⟨he, hb⟩
    subst he
    have HB' := Lib.hid (HB.out.trans (hb.mono HB.out.size))
    clear HB
    have HB := HB'
    clear HB'
    clear hb
    go_wp2_with fail
    refine (R2.out _ HB.out).mono ?_
    rintro e w4 ⟨he, hb⟩
    subst he
    have HB' := Lib.hid (HB.out.trans (hb.mono HB.out.size))
    clear HB
    have HB := HB'
    clear HB'
    clear hb
    go_wp2_with fail
    refine (H3.out _ HB.out).mono ?_
    rintro e w5 ⟨vC, he, hC3, hb⟩
    subst he
    have HB' := Lib.hid (HB.out.trans (hb.mono HB.out.size))
    clear HB
    have HB := HB'
    clear HB'
    clear hb
    have C3 := Lib.hid hC3
    clear hC3
    go_wp2_with fail
    refine (R3.out _ HB.out).mono ?_
    rintro e w6 ⟨vD, he, hD3, hb⟩
    subst he
    have C3' := Lib.hid (C3.out.up hb)
    clear C3
    have C3 := C3'
    clear C3'
    have HB' := Lib.hid (HB.out.trans (hb.mono HB.out.size))
    clear HB
    have HB := HB'
    clear HB'
    clear hb
    have D3 := Lib.hid hD3
    clear hD3
    go_wp2_with fail
    refine (aw_same _ _ _ _ C3.out D3.out).mono ?_
    rintro e w7 ⟨he, hb⟩
    subst he
    have C3' := Lib.hid (C3.out.up hb)
    clear C3
    have C3 := C3'
    clear C3'
    have D3' := Lib.hid (D3.out.up hb)
    clear D3
    have D3 := D3'
    clear D3'
    have HB' := Lib.hid (HB.out.trans (hb.mono HB.out.size))
    clear HB
    have HB := HB'
    clear HB'
    clear hb
    go_wp2_with fail
    refine (awake_any _ (HT.out.below HB.out)).mono ?_
    rintro e w8 ⟨he, hb⟩
    subst he
    go_wp2_with fail
    go_ret
    exact ⟨rfl, HB.out.trans (hb.mono HB.out.size)⟩
end Go.Proofs.YtlababdfdjjjaaaGreatDoor
