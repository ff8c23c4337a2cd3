import Derived.Test.YtlababdfdjjjaaaGreatDoorB0
namespace Go.Proofs.YtlababdfdjjjaaaGreatDoor
open Go.RowKit

set_option maxRecDepth 100000 in
set_option maxHeartbeats 16000000 in
theorem lawWidePowers_any (va : Value) (la : List Nat) (k : Int) (w : World) (hT : Tabs w) (ha : Arg w va la) :
    Calls Tryz.prog 8 #[va, .int .i64 k] w fun e w' => e = .returned (.bool true) ∧ Below w.heap.size w w' := by
  have hl1 := ha.2
  obtain ⟨A, capa, rfl, -⟩ := ha.1.form
  have H1 : Hid (∀ W, Below w.heap.size w W → Calls Tryz.prog 44 #[.slice A la.length capa, .int .i64 k] W fun e w' => ∃ v, e = .returned (.tuple #[v, .int .i64 (powW la k).2]) ∧ Arg w' v (dg (powW la k).1) ∧ Below W.heap.size W w') := Lib.hid fun W hW => cPow _ la k W (ha.up hW)
  have R1 : Hid (∀ W, Below w.heap.size w W → Calls Tryz.prog 45 #[.slice A la.length capa, .int .i64 k] W fun e w' => ∃ v, e = .returned (.tuple #[v, .int .i64 (powW la k).2]) ∧ Arg w' v (dg (powW la k).1) ∧ Below W.heap.size W w') := Lib.hid fun W hW => rcPow _ la k W (ha.up hW)
  generalize (powW la k).2 = e1 at *
  generalize dg (powW la k).1 = L1 at *
  have H2 : Hid (∀ W, Below w.heap.size w W → Calls Tryz.prog 46 #[.slice A la.length capa, .int .i64 k] W fun e w' => ∃ v, e = .returned (.tuple #[v, .int .i64 (rootW la k).2]) ∧ Arg w' v (dg (rootW la k).1) ∧ Below W.heap.size W w') := Lib.hid fun W hW => cRoot _ la k W (ha.up hW)
  have R2 : Hid (∀ W, Below w.heap.size w W → Calls Tryz.prog 47 #[.slice A la.length capa, .int .i64 k] W fun e w' => ∃ v, e = .returned (.tuple #[v, .int .i64 (rootW la k).2]) ∧ Arg w' v (dg (rootW la k).1) ∧ Below W.heap.size W w') := Lib.hid fun W hW => rcRoot _ la k W (ha.up hW)
  generalize (rootW la k).2 = e2 at *
  generalize dg (rootW la k).1 = L2 at *
  have HT := Lib.hid hT
  have HB := Lib.hid (Below.refl w.heap.size w)
  clear ha hT
  generalize la.length = n1 at *
  have p1 : n1 ≤ 6 ∨ (6 < n1 ∧ n1 ≤ 512) ∨ (512 < n1 ∧ n1 ≤ 520) ∨ 520 < n1 := by omega
  rcases p1 with p1 | p1 | p1 | p1
  · have t0 : ¬ (6 : Int) < (n1 : Int) := by omega
    have t1 : (n1 : Int) ≤ 512 := by omega
    have t2 : ¬ (520 : Int) < (n1 : Int) := by omega
    clear p1 hl1
    go_enter Tryz.func8, Tryz.ntmps8
    go_wp2_with fail
    refine (H1.out _ HB.out).mono ?_
    rintro e w1 ⟨vC1, he, hC1, hb⟩
    subst he
    have HB' := Lib.hid (HB.out.trans (hb.mono HB.out.size))
    clear HB
    have HB := HB'
    clear HB'
    clear hb
    have C1 := Lib.hid hC1
    clear hC1
    go_wp2_with fail
    refine (R1.out _ HB.out).mono ?_
    rintro e w2 ⟨vD1, he, hD1, hb⟩
    subst he
    have C1' := Lib.hid (C1.out.up hb)
    clear C1
    have C1 := C1'
    clear C1'
    have HB' := Lib.hid (HB.out.trans (hb.mono HB.out.size))
    clear HB
    have HB := HB'
    clear HB'
    clear hb
    have D1 := Lib.hid hD1
    clear hD1
    go_wp2_with fail
    refine (H2.out _ HB.out).mono ?_
    rintro e w3 ⟨vC2, he, hC2, hb⟩
    subst he
    have C1' := Lib.hid (C1.out.up hb)
    clear C1
    have C1 := C1'
    clear C1'
    have D1' := Lib.hid (D1.out.up hb)
    clear D1
    have D1 := D1'
    clear D1'
    have HB' := Lib.hid (HB.out.trans (hb.mono HB.out.size))
    clear HB
    have HB := HB'
    clear HB'
    clear hb
    have C2 := Lib.hid hC2
    clear hC2
    go_wp2_with fail
    refine (R2.out _ HB.out).mono ?_
    rintro e w4 ⟨vD2, he, hD2, hb⟩
    subst he
    have C1' := Lib.hid (C1.out.up hb)
    clear C1
    have C1 := C1'
    clear C1'
    have D1' := Lib.hid (D1.out.up hb)
    clear D1
    have D1 := D1'
    clear D1'
    have C2' := Lib.hid (C2.out.up hb)
    clear C2
    have C2 := C2'
    clear C2'
    have HB' := Lib.hid (HB.out.trans (hb.mono HB.out.size))
    clear HB
    have HB := HB'
    clear HB'
    clear hb
    have D2 := Lib.hid hD2
    clear hD2
    go_wp2_with fail
    refine (aw_same _ _ _ _ C1.out D1.out).mono ?_
    rintro e w5 ⟨he, hb⟩
    subst he
    have C1' := Lib.hid (C1.out.up hb)
    clear C1
    have C1 := C1'
    clear C1'
    have D1' := Lib.hid (D1.out.up hb)
    clear D1
    have D1 := D1'
    clear D1'
    have C2' := Lib.hid (C2.out.up hb)
    clear C2
    have C2 := C2'
    clear C2'
    have D2' := Lib.hid (D2.out.up hb)
    clear D2
    have D2 := D2'
    clear D2'
    have HB' := Lib.hid (HB.out.trans (hb.mono HB.out.size))
    clear HB
    have HB := HB'
    clear HB'
    clear hb
    go_wp2_with fail
    refine (aw_same _ _ _ _ C2.out D2.out).mono ?_
    rintro e w6 ⟨he, hb⟩
    subst he
    have C1' := Lib.hid (C1.out.up hb)
    clear C1
    have C1 := C1'
    clear C1'
    have D1' := Lib.hid (D1.out.up hb)
    clear D1
    have D1 := D1'
    clear D1'
    have C2' := Lib.hid (C2.out.up hb)
    clear C2
    have C2 := C2'
    clear C2'
    have D2' := Lib.hid (D2.out.up hb)
    clear D2
    have D2 := D2'
    clear D2'
    have HB' := Lib.hid (HB.out.trans (hb.mono HB.out.size))
    clear HB
    have HB := HB'
    clear HB'
    clear hb
    go_wp2_with fail
    refine (awake_any _ (HT.out.below HB.out)).mono ?_
    rintro e w7 ⟨he, hb⟩
    subst he
    go_wp2_with fail
    go_ret
    exact ⟨rfl, HB.out.trans (hb.mono HB.out.size)⟩
  · have t0 : (6 : Int) < (n1 : Int) := by omega
    have t1 : (n1 : Int) ≤ 512 := by omega
    have t2 : ¬ (520 : Int) < (n1 : Int) := by omega
    clear p1 hl1
    go_enter Tryz.func8, Tryz.ntmps8
    go_wp2_with fail
    refine (awake_any _ (HT.out.below HB.out)).mono ?_
    rintro e w1 ⟨he, hb⟩
    subst he
    go_wp2_with fail
    go_ret
    exact ⟨rfl, HB.out.trans (hb.mono HB.out.size)⟩
  · have t0 : (6 : Int) < (n1 : Int) := by omega
    have t1 : ¬ (n1 : Int) ≤ 512 := by omega
    have t2 : ¬ (520 : Int) < (n1 : Int) := by omega
    clear p1 hl1
    go_enter Tryz.func8, Tryz.ntmps8
    go_wp2_with fail
    refine (H1.out _ HB.out).mono ?_
    rintro e w1 ⟨vC1, he, hC1, hb⟩
    subst he
    have HB' := Lib.hid (HB.out.trans (hb.mono HB.out.size))
    clear HB
    have HB := HB'
    clear HB'
    clear hb
    have C1 := Lib.hid hC1
    clear hC1
    go_wp2_with fail
    refine (R1.out _ HB.out).mono ?_
    rintro e w2 ⟨vD1, he, hD1, hb⟩
    subst he
    have C1' := Lib.hid (C1.out.up hb)
    clear C1
    have C1 := C1'
    clear C1'
    have HB' := Lib.hid (HB.out.trans (hb.mono HB.out.size))
    clear HB
    have HB := HB'
    clear HB'
    clear hb
    have D1 := Lib.hid hD1
    clear hD1
    go_wp2_with fail
    refine (H2.out _ HB.out).mono ?_
    rintro e w3 ⟨vC2, he, hC2, hb⟩
    subst he
    have C1' := Lib.hid (C1.out.up hb)
    clear C1
    have C1 := C1'
    clear C1'
    have D1' := Lib.hid (D1.out.up hb)
    clear D1
    have D1 := D1'
    clear D1'
    have HB' := Lib.hid (HB.out.trans (hb.mono HB.out.size))
    clear HB
    have HB := HB'
    clear HB'
    clear hb
    have C2 := Lib.hid hC2
    clear hC2
    go_wp2_with fail
    refine (R2.out _ HB.out).mono ?_
    rintro e w4 ⟨vD2, he, hD2, hb⟩
    subst he
    have C1' := Lib.hid (C1.out.up hb)
    clear C1
    have C1 := C1'
    clear C1'
    have D1' := Lib.hid (D1.out.up hb)
    clear D1
    have D1 := D1'
    clear D1'
    have C2' := Lib.hid (C2.out.up hb)
    clear C2
    have C2 := C2'
    clear C2'
    have HB' := Lib.hid (HB.out.trans (hb.mono HB.out.size))
    clear HB
    have HB := HB'
    clear HB'
    clear hb
    have D2 := Lib.hid hD2
    clear hD2
    go_wp2_with fail
    refine (aw_same _ _ _ _ C1.out D1.out).mono ?_
    rintro e w5 ⟨he, hb⟩
    subst he
    have C1' := Lib.hid (C1.out.up hb)
    clear C1
    have C1 := C1'
    clear C1'
    have D1' := Lib.hid (D1.out.up hb)
    clear D1
    have D1 := D1'
    clear D1'
    have C2' := Lib.hid (C2.out.up hb)
    clear C2
    have C2 := C2'
    clear C2'
    have D2' := Lib.hid (D2.out.up hb)
    clear D2
    have D2 := D2'
    clear D2'
    have HB' := Lib.hid (HB.out.trans (hb.mono HB.out.size))
    clear HB
    have HB := HB'
    clear HB'
    clear hb
    go_wp2_with fail
    refine (aw_same _ _ _ _ C2.out D2.out).mono ?_
    rintro e w6 ⟨he, hb⟩
    subst he
    have C1' := Lib.hid (C1.out.up hb)
    clear C1
    have C1 := C1'
    clear C1'
    have D1' := Lib.hid (D1.out.up hb)
    clear D1
    have D1 := D1'
    clear D1'
    have C2' := Lib.hid (C2.out.up hb)
    clear C2
    have C2 := C2'
    clear C2'
    have D2' := Lib.hid (D2.out.up hb)
    clear D2
    have D2 := D2'
    clear D2'
    have HB' := Lib.hid (HB.out.trans (hb.mono HB.out.size))
    clear HB
    have HB := HB'
    clear HB'
    clear hb
    go_wp2_with fail
    refine (awake_any _ (HT.out.below HB.out)).mono ?_
    rintro e w7 ⟨he, hb⟩
    subst he
    go_wp2_with fail
    go_ret
    exact ⟨rfl, HB.out.trans (hb.mono HB.out.size)⟩
  · have t0 : (6 : Int) < (n1 : Int) := by omega
    have t1 : ¬ (n1 : Int) ≤ 512 := by omega
    have t2 : (520 : Int) < (n1 : Int) := by omega
    clear p1 hl1
    go_enter Tryz.func8, Tryz.ntmps8
    go_wp2_with fail
    refine (awake_any _ (HT.out.below HB.out)).mono ?_
    rintro e w1 ⟨he, hb⟩
    subst he
    go_wp2_with fail
    go_ret
    exact ⟨rfl, HB.out.trans (hb.mono HB.out.size)⟩
end Go.Proofs.YtlababdfdjjjaaaGreatDoor
