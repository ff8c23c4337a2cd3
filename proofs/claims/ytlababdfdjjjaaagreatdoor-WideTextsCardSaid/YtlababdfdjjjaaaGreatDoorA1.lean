import Derived.Test.YtlababdfdjjjaaaGreatDoorA0
namespace Go.Proofs.YtlababdfdjjjaaaGreatDoor
open Go.RowKit

theorem al_below (W : World) (o : Obj) : Below W.heap.size W (W.alloc o) := (Below.refl _ _).alloc (Nat.le_refl _) o
theorem aw_text (W : World) (va : Value) (h1 : Arg W va [0, 1]) (hT : Tabs W) :
    Calls Tryz.prog 23 #[va] W fun e w' => e = .returned (.tuple #[.string ⟨#[52, 50, 57, 52, 57, 54, 55, 50, 57, 54]⟩, .int .i64 0]) ∧ Below W.heap.size W w' := by
  have h := Text_any va [0, 1] W h1 hT
  rw [text_val] at h
  exact h
theorem aw_div (W : World) (va vb : Value) (h1 : Arg W va [0, 0, 1]) (h2 : Arg W vb [4294967295]) :
    Calls Tryz.prog 40 #[va, vb] W fun e w' => ∃ q r, e = .returned (.tuple #[q, r, .int .i64 0]) ∧ Arg w' q [1, 1] ∧ Arg w' r [1] ∧ Below W.heap.size W w' := by
  have h := DivMod_any va vb [0, 0, 1] [4294967295] W h1 h2
  have hv := div_val
  generalize divW [0, 0, 1] [4294967295] = r at h hv
  refine h.mono ?_
  rintro e w' ⟨vq, vr, he, hq, hr, hb⟩
  subst hv
  have hq : Num w' w'.heap.size vq 4294967297 := hq
  have hr : Num w' w'.heap.size vr 1 := hr
  exact ⟨vq, vr, he, num_arg hq [1, 1] (dg_list (by simp [okL, LB]) (by simp) (by simp [val, LB])) (by simp), num_arg hr [1] (dg_limb (by omega) (by omega)) (by simp), hb⟩
theorem aw_of (n : Nat) (h0 : n ≠ 0) (hn : n < 4294967296) (W : World) :
    Calls Tryz.prog 21 #[.int .u64 (n : Int)] W fun e w' => ∃ v, e = .returned v ∧ Arg w' v [n] ∧ Below W.heap.size W w' :=
  (of_any n (by omega) W).mono fun _ _ ⟨v, he, hn', hb⟩ => ⟨v, he, num_arg hn' [n] (dg_limb h0 hn) (by simp), hb⟩
theorem aw_quo (neg : Bool) (m n : Nat) (hm : m ≠ 0) (hm1 : m < 4294967296) (hn : n ≠ 0) (hn1 : n < 4294967296) (W : World) :
    Calls Tryz.prog 69 #[.bool neg, .int .u64 (m : Int), .int .u64 (n : Int)] W fun e w' => ∃ A l c B l' c', e = .returned (.agg #[.bool neg, .slice A l c, .slice B l' c']) ∧ Arg w' (.slice A l c) [m] ∧ Arg w' (.slice B l' c') [n] ∧ Below W.heap.size W w' :=
  (quo_any neg m n (by omega) (by omega) W).mono fun _ _ ⟨A, l, c, B, l', c', he, h1, h2, hb⟩ => ⟨A, l, c, B, l', c', he, num_arg h1 [m] (dg_limb hm hm1) (by simp), num_arg h2 [n] (dg_limb hn hn1) (by simp), hb⟩
theorem aw_gcd (W : World) (va vb : Value) (h1 : Arg W va [462]) (h2 : Arg W vb [1071]) :
    Calls Tryz.prog 42 #[va, vb] W fun e w' => ∃ v, e = .returned (.tuple #[v, .int .i64 0]) ∧ Arg w' v [21] ∧ Below W.heap.size W w' := by
  have h := Gcd_any va vb [462] [1071] W h1 h2
  have hv := gcd_val
  generalize gcdW [462] [1071] = r at h hv
  refine h.mono ?_
  rintro e w' ⟨v, he, hn, hb⟩
  subst hv
  have hn : Num w' w'.heap.size v 21 := hn
  exact ⟨v, he, num_arg hn [21] (dg_limb (by omega) (by omega)) (by simp), hb⟩
theorem aw_root (W : World) (va : Value) (h1 : Arg W va [999]) :
    Calls Tryz.prog 46 #[va, .int .i64 3] W fun e w' => ∃ v, e = .returned (.tuple #[v, .int .i64 0]) ∧ Arg w' v [9] ∧ Below W.heap.size W w' := by
  have h := Root_any va [999] 3 W h1
  have hv := root_val
  generalize rootW [999] 3 = r at h hv
  refine h.mono ?_
  rintro e w' ⟨v, he, hn, hb⟩
  subst hv
  have hn : Num w' w'.heap.size v 9 := hn
  exact ⟨v, he, num_arg hn [9] (dg_limb (by omega) (by omega)) (by simp), hb⟩
theorem aw_add (W : World) (n1 d1 n2 d2 : Value) (h1 : Arg W n1 [1]) (h2 : Arg W d1 [6]) (h3 : Arg W n2 [2]) (h4 : Arg W d2 [3]) :
    Calls Tryz.prog 49 #[.agg #[.bool false, n1, d1], .agg #[.bool true, n2, d2]] W fun e w' => ∃ A l c B l' c', e = .returned (.tuple #[.agg #[.bool true, .slice A l c, .slice B l' c'], .int .i64 0]) ∧ Arg w' (.slice A l c) [1] ∧ Arg w' (.slice B l' c') [2] ∧ Below W.heap.size W w' := by
  have h := QAdd_any ⟨false, [1], [6]⟩ ⟨true, [2], [3]⟩ n1 d1 n2 d2 W ⟨h1, h2⟩ ⟨h3, h4⟩
  have hv := qadd_val
  generalize qaddW ⟨false, [1], [6]⟩ ⟨true, [2], [3]⟩ = r at h hv
  refine (h.mono fun e w' h => h.forms).mono ?_
  rintro e w' ⟨A, l, c, B, l', c', he, h1, h2, hb⟩
  subst hv
  have h1' : Num w' w'.heap.size (.slice A l c) 1 := h1
  have h2' : Num w' w'.heap.size (.slice B l' c') 2 := h2
  exact ⟨A, l, c, B, l', c', he, num_arg h1' [1] (dg_limb (by omega) (by omega)) (by simp), num_arg h2' [2] (dg_limb (by omega) (by omega)) (by simp), hb⟩
theorem aw_pow (W : World) (n1 d1 : Value) (h1 : Arg W n1 [2]) (h2 : Arg W d1 [3]) :
    Calls Tryz.prog 66 #[.agg #[.bool true, n1, d1], .int .i64 (-3)] W fun e w' => ∃ A l c B l' c', e = .returned (.tuple #[.agg #[.bool true, .slice A l c, .slice B l' c'], .int .i64 0]) ∧ Arg w' (.slice A l c) [27] ∧ Arg w' (.slice B l' c') [8] ∧ Below W.heap.size W w' := by
  have h := QPow_any ⟨true, [2], [3]⟩ n1 d1 (-3) W ⟨h1, h2⟩
  have hv := qpow_val
  generalize qpowW ⟨true, [2], [3]⟩ (-3) = r at h hv
  refine (h.mono fun e w' h => h.forms).mono ?_
  rintro e w' ⟨A, l, c, B, l', c', he, h1, h2, hb⟩
  subst hv
  have h1' : Num w' w'.heap.size (.slice A l c) 27 := h1
  have h2' : Num w' w'.heap.size (.slice B l' c') 8 := h2
  exact ⟨A, l, c, B, l', c', he, num_arg h1' [27] (dg_limb (by omega) (by omega)) (by simp), num_arg h2' [8] (dg_limb (by omega) (by omega)) (by simp), hb⟩
theorem aw_floor (W : World) (n1 d1 : Value) (h1 : Arg W n1 [1]) (h2 : Arg W d1 [2]) :
    Calls Tryz.prog 60 #[.agg #[.bool true, n1, d1]] W fun e w' => ∃ v, e = .returned (.tuple #[.bool true, v, .int .i64 0]) ∧ Arg w' v [1] ∧ Below W.heap.size W w' := by
  have h := QFloor_any ⟨true, [1], [2]⟩ n1 d1 W ⟨h1, h2⟩
  have hv := qfloor_val
  generalize qfloorW ⟨true, [1], [2]⟩ = r at h hv
  refine h.mono ?_
  rintro e w' ⟨v, he, hn, hb⟩
  subst hv
  have hn : Num w' w'.heap.size v 1 := hn
  exact ⟨v, he, num_arg hn [1] (dg_limb (by omega) (by omega)) (by simp), hb⟩
theorem aw_same (W : World) (va vb : Value) (l : List Nat) (h1 : Arg W va l) (h2 : Arg W vb l) :
    Calls Tryz.prog 20 #[va, vb] W fun e w' => e = .returned (.bool true) ∧ Below W.heap.size W w' :=
  (same_any va vb l l W h1 h2).mono fun _ _ ⟨he, hd⟩ => ⟨by rw [he, decide_eq_true rfl], hd.below⟩
theorem same_lit (W : World) (va : Value) (l : List Nat) (h1 : Arg W va l) (ho : okL l) (hl : l.length ≤ 1000) :
    Calls Tryz.prog 20 #[va, .slice (some ⟨W.heap.size, 0, none⟩) l.length l.length] (W.alloc (.cells (l.map u32).toArray 64)) fun e w' => e = .returned (.bool true) ∧ Below W.heap.size W w' :=
  (aw_same _ va _ l (h1.up (al_below W _)) (lit_new W l ho hl)).mono fun _ _ ⟨he, hb⟩ => ⟨he, (al_below W _).trans (hb.mono (al_below W _).size)⟩
theorem same_litd (W : World) (va : Value) (l : List Nat) (h1 : Arg W va l) (ho : okL l) (hl : l.length ≤ 1000) :
    Calls Tryz.prog 20 #[va, .slice (some ⟨W.heap.size, 0, none⟩) l.length l.length] (W.alloc (.cells (l.map u32).toArray 64)).drew fun e w' => e = .returned (.bool true) ∧ Below W.heap.size W w' :=
  (aw_same _ va _ l (h1.up (al_below W _).drew) ((lit_new W l ho hl).up (Below.refl _ _).drew)).mono fun _ _ ⟨he, hb⟩ => ⟨he, (al_below W _).drew.trans (hb.mono (al_below W _).size)⟩
theorem aw_sameQ (W : World) (n1 d1 n2 d2 : Value) (neg : Bool) (ln ld : List Nat) (h1 : Arg W n1 ln) (h2 : Arg W d1 ld) (h3 : Arg W n2 ln) (h4 : Arg W d2 ld) :
    Calls Tryz.prog 53 #[.agg #[.bool neg, n1, d1], .agg #[.bool neg, n2, d2]] W fun e w' => e = .returned (.bool true) ∧ Below W.heap.size W w' :=
  (sameQuo_any ⟨neg, ln, ld⟩ ⟨neg, ln, ld⟩ n1 d1 n2 d2 W ⟨h1, h2⟩ ⟨h3, h4⟩).mono fun _ _ ⟨he, hb⟩ => ⟨by rw [he]; congr 2; simp [sameQ], hb⟩

set_option maxRecDepth 100000 in
set_option maxHeartbeats 16000000 in
theorem awake_any (w : World) (hT : Tabs w) : Calls Tryz.prog 15 #[] w fun e w' => e = .returned (.bool true) ∧ Below w.heap.size w w' := by
  have HB := Lib.hid (Below.refl w.heap.size w)
  have HT := Lib.hid hT
  clear hT
  go_enter Tryz.func15, Tryz.ntmps15
  go_wp2_with fail
  have L1 : Hid (Arg (w.alloc (.cells #[.int .u32 0, .int .u32 1] 64)) (.slice (some ⟨w.heap.size, 0, none⟩) 2 2) [0, 1]) := Lib.hid (lit_new w [0, 1] (by simp [okL, LB]) (by simp))
  have hb := al_below w (.cells #[.int .u32 0, .int .u32 1] 64)
  have HB' := Lib.hid (HB.out.trans (hb.mono HB.out.size))
  clear HB
  have HB := HB'
  clear HB'
  clear hb
  refine (aw_text _ _ L1.out (HT.out.below HB.out)).mono ?_
  rintro e w1 ⟨he, hb⟩
  subst he
  have L1' := Lib.hid (L1.out.up hb)
  clear L1
  have L1 := L1'
  clear L1'
  have HB' := Lib.hid (HB.out.trans (hb.mono HB.out.size))
  clear HB
  have HB := HB'
  clear HB'
  clear hb
  clear L1
  go_wp2_with fail
  have L1 : Hid (Arg (w1.alloc (.cells #[.int .u32 0, .int .u32 0, .int .u32 1] 64)) (.slice (some ⟨w1.heap.size, 0, none⟩) 3 3) [0, 0, 1]) := Lib.hid (lit_new w1 [0, 0, 1] (by simp [okL, LB]) (by simp))
  have hb := al_below w1 (.cells #[.int .u32 0, .int .u32 0, .int .u32 1] 64)
  have HB' := Lib.hid (HB.out.trans (hb.mono HB.out.size))
  clear HB
  have HB := HB'
  clear HB'
  clear hb
  have hL2 : Arg ((w1.alloc (.cells #[.int .u32 0, .int .u32 0, .int .u32 1] 64)).alloc (.cells #[.int .u32 4294967295] 64)) (.slice (some ⟨(w1.alloc (.cells #[.int .u32 0, .int .u32 0, .int .u32 1] 64)).heap.size, 0, none⟩) 1 1) [4294967295] := lit_new (w1.alloc (.cells #[.int .u32 0, .int .u32 0, .int .u32 1] 64)) [4294967295] (by simp [okL, LB]) (by simp)
  rw [World.size_alloc] at hL2
  have L2 := Lib.hid hL2
  clear hL2
  have hb := al_below (w1.alloc (.cells #[.int .u32 0, .int .u32 0, .int .u32 1] 64)) (.cells #[.int .u32 4294967295] 64)
  have L1' := Lib.hid (L1.out.up hb)
  clear L1
  have L1 := L1'
  clear L1'
  have HB' := Lib.hid (HB.out.trans (hb.mono HB.out.size))
  clear HB
  have HB := HB'
  clear HB'
  clear hb
  refine (aw_div _ _ _ L1.out L2.out).mono ?_
  rintro e w2 ⟨vq, vr, he, hAQ, hAR, hb⟩
  subst he
  have L1' := Lib.hid (L1.out.up hb)
  clear L1
  have L1 := L1'
  clear L1'
  have L2' := Lib.hid (L2.out.up hb)
  clear L2
  have L2 := L2'
  clear L2'
  have HB' := Lib.hid (HB.out.trans (hb.mono HB.out.size))
  clear HB
  have HB := HB'
  clear HB'
  clear hb
  have AQ := Lib.hid hAQ
  clear hAQ
  have AR := Lib.hid hAR
  clear hAR
  clear L1 L2
  go_wp2_with fail
  refine (aw_of 462 (by omega) (by omega) _).mono ?_
  rintro e w3 ⟨v1, he, hL1, hb⟩
  subst he
  have AQ' := Lib.hid (AQ.out.up hb)
  clear AQ
  have AQ := AQ'
  clear AQ'
  have AR' := Lib.hid (AR.out.up hb)
  clear AR
  have AR := AR'
  clear AR'
  have HB' := Lib.hid (HB.out.trans (hb.mono HB.out.size))
  clear HB
  have HB := HB'
  clear HB'
  clear hb
  have L1 := Lib.hid hL1
  clear hL1
  go_wp2_with fail
  refine (aw_of 1071 (by omega) (by omega) _).mono ?_
  rintro e w4 ⟨v2, he, hL2, hb⟩
  subst he
  have AQ' := Lib.hid (AQ.out.up hb)
  clear AQ
  have AQ := AQ'
  clear AQ'
  have AR' := Lib.hid (AR.out.up hb)
  clear AR
  have AR := AR'
  clear AR'
  have L1' := Lib.hid (L1.out.up hb)
  clear L1
  have L1 := L1'
  clear L1'
  have HB' := Lib.hid (HB.out.trans (hb.mono HB.out.size))
  clear HB
  have HB := HB'
  clear HB'
  clear hb
  have L2 := Lib.hid hL2
  clear hL2
  go_wp2_with fail
  refine (aw_gcd _ _ _ L1.out L2.out).mono ?_
  rintro e w5 ⟨vg, he, hAG, hb⟩
  subst he
  have AQ' := Lib.hid (AQ.out.up hb)
  clear AQ
  have AQ := AQ'
  clear AQ'
  have AR' := Lib.hid (AR.out.up hb)
  clear AR
  have AR := AR'
  clear AR'
  have L1' := Lib.hid (L1.out.up hb)
  clear L1
  have L1 := L1'
  clear L1'
  have L2' := Lib.hid (L2.out.up hb)
  clear L2
  have L2 := L2'
  clear L2'
  have HB' := Lib.hid (HB.out.trans (hb.mono HB.out.size))
  clear HB
  have HB := HB'
  clear HB'
  clear hb
  have AG := Lib.hid hAG
  clear hAG
  clear L1 L2
  go_wp2_with fail
  refine (aw_quo false 1 6 (by omega) (by omega) (by omega) (by omega) _).mono ?_
  rintro e w6 ⟨AQa, lQa, cQa, BQa, mQa, dQa, he, hQan, hQad, hb⟩
  subst he
  have AQ' := Lib.hid (AQ.out.up hb)
  clear AQ
  have AQ := AQ'
  clear AQ'
  have AR' := Lib.hid (AR.out.up hb)
  clear AR
  have AR := AR'
  clear AR'
  have AG' := Lib.hid (AG.out.up hb)
  clear AG
  have AG := AG'
  clear AG'
  have HB' := Lib.hid (HB.out.trans (hb.mono HB.out.size))
  clear HB
  have HB := HB'
  clear HB'
  clear hb
  have Qan := Lib.hid hQan
  clear hQan
  have Qad := Lib.hid hQad
  clear hQad
  go_wp2_with fail
  refine (aw_quo true 2 3 (by omega) (by omega) (by omega) (by omega) _).mono ?_
  rintro e w7 ⟨AQb, lQb, cQb, BQb, mQb, dQb, he, hQbn, hQbd, hb⟩
  subst he
  have AQ' := Lib.hid (AQ.out.up hb)
  clear AQ
  have AQ := AQ'
  clear AQ'
  have AR' := Lib.hid (AR.out.up hb)
  clear AR
  have AR := AR'
  clear AR'
  have AG' := Lib.hid (AG.out.up hb)
  clear AG
  have AG := AG'
  clear AG'
  have Qan' := Lib.hid (Qan.out.up hb)
  clear Qan
  have Qan := Qan'
  clear Qan'
  have Qad' := Lib.hid (Qad.out.up hb)
  clear Qad
  have Qad := Qad'
  clear Qad'
  have HB' := Lib.hid (HB.out.trans (hb.mono HB.out.size))
  clear HB
  have HB := HB'
  clear HB'
  clear hb
  have Qbn := Lib.hid hQbn
  clear hQbn
  have Qbd := Lib.hid hQbd
  clear hQbd
  go_wp2_with fail
  refine (aw_add _ _ _ _ _ Qan.out Qad.out Qbn.out Qbd.out).mono ?_
  rintro e w8 ⟨Bx, lx, cx, Dx, mx, dx, he, hXn, hXd, hb⟩
  subst he
  have AQ' := Lib.hid (AQ.out.up hb)
  clear AQ
  have AQ := AQ'
  clear AQ'
  have AR' := Lib.hid (AR.out.up hb)
  clear AR
  have AR := AR'
  clear AR'
  have AG' := Lib.hid (AG.out.up hb)
  clear AG
  have AG := AG'
  clear AG'
  have Qan' := Lib.hid (Qan.out.up hb)
  clear Qan
  have Qan := Qan'
  clear Qan'
  have Qad' := Lib.hid (Qad.out.up hb)
  clear Qad
  have Qad := Qad'
  clear Qad'
  have Qbn' := Lib.hid (Qbn.out.up hb)
  clear Qbn
  have Qbn := Qbn'
  clear Qbn'
  have Qbd' := Lib.hid (Qbd.out.up hb)
  clear Qbd
  have Qbd := Qbd'
  clear Qbd'
  have HB' := Lib.hid (HB.out.trans (hb.mono HB.out.size))
  clear HB
  have HB := HB'
  clear HB'
  clear hb
  have Xn := Lib.hid hXn
  clear hXn
  have Xd := Lib.hid hXd
  clear hXd
  clear Qan Qad Qbn Qbd
  have hb := al_below w8 (.cells #[.bool true, (.slice Bx lx cx), (.slice Dx mx dx)] 48)
  have AQ' := Lib.hid (AQ.out.up hb)
  clear AQ
  have AQ := AQ'
  clear AQ'
  have AR' := Lib.hid (AR.out.up hb)
  clear AR
  have AR := AR'
  clear AR'
  have AG' := Lib.hid (AG.out.up hb)
  clear AG
  have AG := AG'
  clear AG'
  have Xn' := Lib.hid (Xn.out.up hb)
  clear Xn
  have Xn := Xn'
  clear Xn'
  have Xd' := Lib.hid (Xd.out.up hb)
  clear Xd
  have Xd := Xd'
  clear Xd'
  have HB' := Lib.hid (HB.out.trans (hb.mono HB.out.size))
  clear HB
  have HB := HB'
  clear HB'
  clear hb
  have X := Lib.hid (QB.new w8 true (.slice Bx lx cx) (.slice Dx mx dx))
  go_wp2_with fail
  generalize w8.alloc (.cells #[.bool true, (.slice Bx lx cx), (.slice Dx mx dx)] 48) = wX at *
  generalize w8.heap.size = gX at *
  refine (aw_quo true 1 2 (by omega) (by omega) (by omega) (by omega) _).mono ?_
  rintro e w10 ⟨AQa, lQa, cQa, BQa, mQa, dQa, he, hQan, hQad, hb⟩
  subst he
  have AQ' := Lib.hid (AQ.out.up hb)
  clear AQ
  have AQ := AQ'
  clear AQ'
  have AR' := Lib.hid (AR.out.up hb)
  clear AR
  have AR := AR'
  clear AR'
  have AG' := Lib.hid (AG.out.up hb)
  clear AG
  have AG := AG'
  clear AG'
  have Xn' := Lib.hid (Xn.out.up hb)
  clear Xn
  have Xn := Xn'
  clear Xn'
  have Xd' := Lib.hid (Xd.out.up hb)
  clear Xd
  have Xd := Xd'
  clear Xd'
  have X' := Lib.hid (X.out.below hb X.out.lt)
  clear X
  have X := X'
  clear X'
  have HB' := Lib.hid (HB.out.trans (hb.mono HB.out.size))
  clear HB
  have HB := HB'
  clear HB'
  clear hb
  have Qan := Lib.hid hQan
  clear hQan
  have Qad := Lib.hid hQad
  clear hQad
  go_wp2_with fail
  refine (aw_floor _ _ _ Qan.out Qad.out).mono ?_
  rintro e w11 ⟨vn, he, hAN, hb⟩
  subst he
  have AQ' := Lib.hid (AQ.out.up hb)
  clear AQ
  have AQ := AQ'
  clear AQ'
  have AR' := Lib.hid (AR.out.up hb)
  clear AR
  have AR := AR'
  clear AR'
  have AG' := Lib.hid (AG.out.up hb)
  clear AG
  have AG := AG'
  clear AG'
  have Xn' := Lib.hid (Xn.out.up hb)
  clear Xn
  have Xn := Xn'
  clear Xn'
  have Xd' := Lib.hid (Xd.out.up hb)
  clear Xd
  have Xd := Xd'
  clear Xd'
  have X' := Lib.hid (X.out.below hb X.out.lt)
  clear X
  have X := X'
  clear X'
  have Qan' := Lib.hid (Qan.out.up hb)
  clear Qan
  have Qan := Qan'
  clear Qan'
  have Qad' := Lib.hid (Qad.out.up hb)
  clear Qad
  have Qad := Qad'
  clear Qad'
  have HB' := Lib.hid (HB.out.trans (hb.mono HB.out.size))
  clear HB
  have HB := HB'
  clear HB'
  clear hb
  have AN := Lib.hid hAN
  clear hAN
  clear Qan Qad
  go_wp2_with fail
  refine (aw_quo true 2 3 (by omega) (by omega) (by omega) (by omega) _).mono ?_
  rintro e w12 ⟨AQa, lQa, cQa, BQa, mQa, dQa, he, hQan, hQad, hb⟩
  subst he
  have AQ' := Lib.hid (AQ.out.up hb)
  clear AQ
  have AQ := AQ'
  clear AQ'
  have AR' := Lib.hid (AR.out.up hb)
  clear AR
  have AR := AR'
  clear AR'
  have AG' := Lib.hid (AG.out.up hb)
  clear AG
  have AG := AG'
  clear AG'
  have Xn' := Lib.hid (Xn.out.up hb)
  clear Xn
  have Xn := Xn'
  clear Xn'
  have Xd' := Lib.hid (Xd.out.up hb)
  clear Xd
  have Xd := Xd'
  clear Xd'
  have X' := Lib.hid (X.out.below hb X.out.lt)
  clear X
  have X := X'
  clear X'
  have AN' := Lib.hid (AN.out.up hb)
  clear AN
  have AN := AN'
  clear AN'
  have HB' := Lib.hid (HB.out.trans (hb.mono HB.out.size))
  clear HB
  have HB := HB'
  clear HB'
  clear hb
  have Qan := Lib.hid hQan
  clear hQan
  have Qad := Lib.hid hQad
  clear hQad
  go_wp2_with fail
  refine (aw_pow _ _ _ Qan.out Qad.out).mono ?_
  rintro e w13 ⟨By, ly, cy, Dy, my, dy, he, hYn, hYd, hb⟩
  subst he
  have AQ' := Lib.hid (AQ.out.up hb)
  clear AQ
  have AQ := AQ'
  clear AQ'
  have AR' := Lib.hid (AR.out.up hb)
  clear AR
  have AR := AR'
  clear AR'
  have AG' := Lib.hid (AG.out.up hb)
  clear AG
  have AG := AG'
  clear AG'
  have Xn' := Lib.hid (Xn.out.up hb)
  clear Xn
  have Xn := Xn'
  clear Xn'
  have Xd' := Lib.hid (Xd.out.up hb)
  clear Xd
  have Xd := Xd'
  clear Xd'
  have X' := Lib.hid (X.out.below hb X.out.lt)
  clear X
  have X := X'
  clear X'
  have AN' := Lib.hid (AN.out.up hb)
  clear AN
  have AN := AN'
  clear AN'
  have Qan' := Lib.hid (Qan.out.up hb)
  clear Qan
  have Qan := Qan'
  clear Qan'
  have Qad' := Lib.hid (Qad.out.up hb)
  clear Qad
  have Qad := Qad'
  clear Qad'
  have HB' := Lib.hid (HB.out.trans (hb.mono HB.out.size))
  clear HB
  have HB := HB'
  clear HB'
  clear hb
  have Yn := Lib.hid hYn
  clear hYn
  have Yd := Lib.hid hYd
  clear hYd
  clear Qan Qad
  have hb := al_below w13 (.cells #[.bool true, (.slice By ly cy), (.slice Dy my dy)] 48)
  have AQ' := Lib.hid (AQ.out.up hb)
  clear AQ
  have AQ := AQ'
  clear AQ'
  have AR' := Lib.hid (AR.out.up hb)
  clear AR
  have AR := AR'
  clear AR'
  have AG' := Lib.hid (AG.out.up hb)
  clear AG
  have AG := AG'
  clear AG'
  have Xn' := Lib.hid (Xn.out.up hb)
  clear Xn
  have Xn := Xn'
  clear Xn'
  have Xd' := Lib.hid (Xd.out.up hb)
  clear Xd
  have Xd := Xd'
  clear Xd'
  have X' := Lib.hid (X.out.below hb X.out.lt)
  clear X
  have X := X'
  clear X'
  have AN' := Lib.hid (AN.out.up hb)
  clear AN
  have AN := AN'
  clear AN'
  have Yn' := Lib.hid (Yn.out.up hb)
  clear Yn
  have Yn := Yn'
  clear Yn'
  have Yd' := Lib.hid (Yd.out.up hb)
  clear Yd
  have Yd := Yd'
  clear Yd'
  have HB' := Lib.hid (HB.out.trans (hb.mono HB.out.size))
  clear HB
  have HB := HB'
  clear HB'
  clear hb
  have Y := Lib.hid (QB.new w13 true (.slice By ly cy) (.slice Dy my dy))
  go_wp2_with fail
  generalize w13.alloc (.cells #[.bool true, (.slice By ly cy), (.slice Dy my dy)] 48) = wY at *
  generalize w13.heap.size = gY at *
  refine (aw_of 999 (by omega) (by omega) _).mono ?_
  rintro e w14 ⟨v3, he, hL1, hb⟩
  subst he
  have AQ' := Lib.hid (AQ.out.up hb)
  clear AQ
  have AQ := AQ'
  clear AQ'
  have AR' := Lib.hid (AR.out.up hb)
  clear AR
  have AR := AR'
  clear AR'
  have AG' := Lib.hid (AG.out.up hb)
  clear AG
  have AG := AG'
  clear AG'
  have Xn' := Lib.hid (Xn.out.up hb)
  clear Xn
  have Xn := Xn'
  clear Xn'
  have Xd' := Lib.hid (Xd.out.up hb)
  clear Xd
  have Xd := Xd'
  clear Xd'
  have X' := Lib.hid (X.out.below hb X.out.lt)
  clear X
  have X := X'
  clear X'
  have AN' := Lib.hid (AN.out.up hb)
  clear AN
  have AN := AN'
  clear AN'
  have Yn' := Lib.hid (Yn.out.up hb)
  clear Yn
  have Yn := Yn'
  clear Yn'
  have Yd' := Lib.hid (Yd.out.up hb)
  clear Yd
  have Yd := Yd'
  clear Yd'
  have Y' := Lib.hid (Y.out.below hb Y.out.lt)
  clear Y
  have Y := Y'
  clear Y'
  have HB' := Lib.hid (HB.out.trans (hb.mono HB.out.size))
  clear HB
  have HB := HB'
  clear HB'
  clear hb
  have L1 := Lib.hid hL1
  clear hL1
  go_wp2_with fail
  refine (aw_root _ _ L1.out).mono ?_
  rintro e w15 ⟨vt, he, hAT, hb⟩
  subst he
  have AQ' := Lib.hid (AQ.out.up hb)
  clear AQ
  have AQ := AQ'
  clear AQ'
  have AR' := Lib.hid (AR.out.up hb)
  clear AR
  have AR := AR'
  clear AR'
  have AG' := Lib.hid (AG.out.up hb)
  clear AG
  have AG := AG'
  clear AG'
  have Xn' := Lib.hid (Xn.out.up hb)
  clear Xn
  have Xn := Xn'
  clear Xn'
  have Xd' := Lib.hid (Xd.out.up hb)
  clear Xd
  have Xd := Xd'
  clear Xd'
  have X' := Lib.hid (X.out.below hb X.out.lt)
  clear X
  have X := X'
  clear X'
  have AN' := Lib.hid (AN.out.up hb)
  clear AN
  have AN := AN'
  clear AN'
  have Yn' := Lib.hid (Yn.out.up hb)
  clear Yn
  have Yn := Yn'
  clear Yn'
  have Yd' := Lib.hid (Yd.out.up hb)
  clear Yd
  have Yd := Yd'
  clear Yd'
  have Y' := Lib.hid (Y.out.below hb Y.out.lt)
  clear Y
  have Y := Y'
  clear Y'
  have L1' := Lib.hid (L1.out.up hb)
  clear L1
  have L1 := L1'
  clear L1'
  have HB' := Lib.hid (HB.out.trans (hb.mono HB.out.size))
  clear HB
  have HB := HB'
  clear HB'
  clear hb
  have AT := Lib.hid hAT
  clear hAT
  clear L1
  have x0 := X.out.c0
  have x1 := X.out.c1
  have x2 := X.out.c2
  have y0 := Y.out.c0
  have y1 := Y.out.c1
  have y2 := Y.out.c2
  go_wp2_with fail
  have S1 : Hid (∀ W, Below w15.heap.size w15 W → Calls Tryz.prog 20 #[vq, .slice (some ⟨W.heap.size, 0, none⟩) 2 2] (W.alloc (.cells #[.int .u32 1, .int .u32 1] 64)) fun e w' => e = .returned (.bool true) ∧ Below W.heap.size W w') := Lib.hid fun W hW => same_lit W vq [1, 1] (AQ.out.up hW) (by simp [okL, LB]) (by simp)
  have S1d : Hid (∀ W, Below w15.heap.size w15 W → Calls Tryz.prog 20 #[vq, .slice (some ⟨W.heap.size, 0, none⟩) 2 2] (W.alloc (.cells #[.int .u32 1, .int .u32 1] 64)).drew fun e w' => e = .returned (.bool true) ∧ Below W.heap.size W w') := Lib.hid fun W hW => same_litd W vq [1, 1] (AQ.out.up hW) (by simp [okL, LB]) (by simp)
  have S2 : Hid (∀ W, Below w15.heap.size w15 W → Calls Tryz.prog 20 #[vr, .slice (some ⟨W.heap.size, 0, none⟩) 1 1] (W.alloc (.cells #[.int .u32 1] 64)) fun e w' => e = .returned (.bool true) ∧ Below W.heap.size W w') := Lib.hid fun W hW => same_lit W vr [1] (AR.out.up hW) (by simp [okL, LB]) (by simp)
  have S2d : Hid (∀ W, Below w15.heap.size w15 W → Calls Tryz.prog 20 #[vr, .slice (some ⟨W.heap.size, 0, none⟩) 1 1] (W.alloc (.cells #[.int .u32 1] 64)).drew fun e w' => e = .returned (.bool true) ∧ Below W.heap.size W w') := Lib.hid fun W hW => same_litd W vr [1] (AR.out.up hW) (by simp [okL, LB]) (by simp)
  have S3 : Hid (∀ W, Below w15.heap.size w15 W → Calls Tryz.prog 20 #[vg, .slice (some ⟨W.heap.size, 0, none⟩) 1 1] (W.alloc (.cells #[.int .u32 21] 64)) fun e w' => e = .returned (.bool true) ∧ Below W.heap.size W w') := Lib.hid fun W hW => same_lit W vg [21] (AG.out.up hW) (by simp [okL, LB]) (by simp)
  have S3d : Hid (∀ W, Below w15.heap.size w15 W → Calls Tryz.prog 20 #[vg, .slice (some ⟨W.heap.size, 0, none⟩) 1 1] (W.alloc (.cells #[.int .u32 21] 64)).drew fun e w' => e = .returned (.bool true) ∧ Below W.heap.size W w') := Lib.hid fun W hW => same_litd W vg [21] (AG.out.up hW) (by simp [okL, LB]) (by simp)
  have S6 : Hid (∀ W, Below w15.heap.size w15 W → Calls Tryz.prog 20 #[vn, .slice (some ⟨W.heap.size, 0, none⟩) 1 1] (W.alloc (.cells #[.int .u32 1] 64)) fun e w' => e = .returned (.bool true) ∧ Below W.heap.size W w') := Lib.hid fun W hW => same_lit W vn [1] (AN.out.up hW) (by simp [okL, LB]) (by simp)
  have S6d : Hid (∀ W, Below w15.heap.size w15 W → Calls Tryz.prog 20 #[vn, .slice (some ⟨W.heap.size, 0, none⟩) 1 1] (W.alloc (.cells #[.int .u32 1] 64)).drew fun e w' => e = .returned (.bool true) ∧ Below W.heap.size W w') := Lib.hid fun W hW => same_litd W vn [1] (AN.out.up hW) (by simp [okL, LB]) (by simp)
  have S9 : Hid (∀ W, Below w15.heap.size w15 W → Calls Tryz.prog 20 #[vt, .slice (some ⟨W.heap.size, 0, none⟩) 1 1] (W.alloc (.cells #[.int .u32 9] 64)) fun e w' => e = .returned (.bool true) ∧ Below W.heap.size W w') := Lib.hid fun W hW => same_lit W vt [9] (AT.out.up hW) (by simp [okL, LB]) (by simp)
  have S9d : Hid (∀ W, Below w15.heap.size w15 W → Calls Tryz.prog 20 #[vt, .slice (some ⟨W.heap.size, 0, none⟩) 1 1] (W.alloc (.cells #[.int .u32 9] 64)).drew fun e w' => e = .returned (.bool true) ∧ Below W.heap.size W w') := Lib.hid fun W hW => same_litd W vt [9] (AT.out.up hW) (by simp [okL, LB]) (by simp)
  have S5 : Hid (∀ W, Below w15.heap.size w15 W → ∀ n2 d2, Arg W n2 [1] → Arg W d2 [2] → Calls Tryz.prog 53 #[.agg #[.bool true, (.slice Bx lx cx), (.slice Dx mx dx)], .agg #[.bool true, n2, d2]] W fun e w' => e = .returned (.bool true) ∧ Below W.heap.size W w') := Lib.hid fun W hW n2 d2 h3 h4 => aw_sameQ W _ _ n2 d2 true [1] [2] (Xn.out.up hW) (Xd.out.up hW) h3 h4
  have S8 : Hid (∀ W, Below w15.heap.size w15 W → ∀ n2 d2, Arg W n2 [27] → Arg W d2 [8] → Calls Tryz.prog 53 #[.agg #[.bool true, (.slice By ly cy), (.slice Dy my dy)], .agg #[.bool true, n2, d2]] W fun e w' => e = .returned (.bool true) ∧ Below W.heap.size W w') := Lib.hid fun W hW n2 d2 h3 h4 => aw_sameQ W _ _ n2 d2 true [27] [8] (Yn.out.up hW) (Yd.out.up hW) h3 h4
  have B0 := Lib.hid (Below.refl w15.heap.size w15)
  clear AQ AR AG AN AT Xn Xd Yn Yd
  refine wp_region_noPanic ?_
  refine wp_region_held_drew (S := (fun w' => w'.cell? ⟨gX, 0, none⟩ = some (.bool true) ∧ w'.cell? ⟨gX, 1, none⟩ = some (.slice Bx lx cx) ∧ w'.cell? ⟨gX, 2, none⟩ = some (.slice Dx mx dx) ∧ w'.cell? ⟨gY, 0, none⟩ = some (.bool true) ∧ w'.cell? ⟨gY, 1, none⟩ = some (.slice By ly cy) ∧ w'.cell? ⟨gY, 2, none⟩ = some (.slice Dy my dy))) (by kernel_rfl) (by refine ⟨?_, ?_, ?_, ?_, ?_, ?_⟩ <;> first | with_reducible assumption | go_keep) (fun hHeld => ?_)
  refine wpAnyH_take (i := 0) (oi := ⟨some 83, _, _, _, _, _⟩) (v := ?_) rfl (by kernel_rfl) (by kernel_rfl) (by kernel_rfl) (fun _ _ _ h => h) (Or.inl ⟨by rfl, ?_⟩) (by assumption) ?_
  rotate_left
  · (intro w hSw; (try dsimp only at hSw); go_simp; (try (with_reducible rfl)))
  (try simp only [Act.put, List.setIfInBounds_toArray, List.set_cons_zero, List.set_cons_succ])
  refine wpAnyH_take (i := 1) (oi := ⟨some 84, _, _, _, _, _⟩) (v := ?_) rfl (by kernel_rfl) (by kernel_rfl) (by kernel_rfl) (fun _ _ _ h => h) (Or.inl ⟨by rfl, ?_⟩) (by assumption) ?_
  rotate_left
  · (intro w hSw; (try dsimp only at hSw); go_simp; (try (with_reducible rfl)))
  (try simp only [Act.put, List.setIfInBounds_toArray, List.set_cons_zero, List.set_cons_succ])
  refine wpAnyH_take (i := 2) (oi := ⟨some 85, _, _, _, _, _⟩) (v := ?_) rfl (by kernel_rfl) (by kernel_rfl) (by kernel_rfl) (fun _ _ _ h => h) (Or.inl ⟨by rfl, ?_⟩) (by assumption) ?_
  rotate_left
  · (intro w hSw; (try dsimp only at hSw); go_simp; (try (with_reducible rfl)))
  (try simp only [Act.put, List.setIfInBounds_toArray, List.set_cons_zero, List.set_cons_succ])
  refine wpAnyH_take (i := 3) (oi := ⟨some 86, _, _, _, _, _⟩) (v := ?_) rfl (by kernel_rfl) (by kernel_rfl) (by kernel_rfl) (fun _ _ _ h => h) (Or.inl ⟨by rfl, ?_⟩) (by assumption) ?_
  rotate_left
  · (intro w hSw; (try dsimp only at hSw); go_simp; (try (with_reducible rfl)))
  (try simp only [Act.put, List.setIfInBounds_toArray, List.set_cons_zero, List.set_cons_succ])
  refine wpAnyH_ready (rs := [4]) (by kernel_rfl) (by simp) (AllReadyH.cons (o := ⟨some 87, _, _, _, _, _⟩) rfl (fun K hK => ?_) AllReadyH.nil)
  rw [if_pos (by rfl)]
  go_simp
  refine hK.out _ _ (by (try dsimp only); refine ⟨?_, ?_, ?_, ?_, ?_, ?_⟩ <;> first | with_reducible assumption | go_keep) (fun hHeld => ?_)
  clear hK K
  (try simp only [Act.put, List.setIfInBounds_toArray, List.set_cons_zero, List.set_cons_succ])
  refine wpAnyH_ready (rs := [5]) (by kernel_rfl) (by simp) (AllReadyH.cons (o := ⟨some 88, _, _, _, _, _⟩) rfl (fun K hK => ?_) AllReadyH.nil)
  rw [if_pos (by rfl)]
  go_simp
  go_at_call 20
  first | with_reducible refine Calls.mono (S1d.out w15 B0.out) ?_ | with_reducible refine Calls.mono (S1.out w15.drew B0.out.drew) ?_ | with_reducible refine Calls.mono (S1.out w15 B0.out) ?_ | refine Calls.mono (S1d.out w15 B0.out) ?_ | refine Calls.mono (S1.out w15.drew B0.out.drew) ?_ | refine Calls.mono (S1.out w15 B0.out) ?_
  rintro e u1 ⟨he, hb1⟩
  subst he
  clear S1 S1d
  have B1 := Lib.hid (B0.out.trans (hb1.mono B0.out.size))
  clear hb1
  have x0q1 := (X.out.below B1.out X.out.lt).c0
  have x1q1 := (X.out.below B1.out X.out.lt).c1
  have x2q1 := (X.out.below B1.out X.out.lt).c2
  have y0q1 := (Y.out.below B1.out Y.out.lt).c0
  have y1q1 := (Y.out.below B1.out Y.out.lt).c1
  have y2q1 := (Y.out.below B1.out Y.out.lt).c2
  (try go_wp2_with fail)
  refine hK.out _ _ (by (try dsimp only); refine ⟨?_, ?_, ?_, ?_, ?_, ?_⟩ <;> first | with_reducible assumption | go_keep) (fun hHeld => ?_)
  clear hK K
  (try simp only [Act.put, List.setIfInBounds_toArray, List.set_cons_zero, List.set_cons_succ])
  refine wpAnyH_take (i := 6) (oi := ⟨some 89, _, _, _, _, _⟩) (v := ?_) rfl (by kernel_rfl) (by kernel_rfl) (by kernel_rfl) (fun _ _ _ h => h) (Or.inl ⟨by rfl, ?_⟩) (by assumption) ?_
  rotate_left
  · (intro w hSw; (try dsimp only at hSw); go_simp; (try (with_reducible rfl)))
  (try simp only [Act.put, List.setIfInBounds_toArray, List.set_cons_zero, List.set_cons_succ])
  refine wpAnyH_take (i := 7) (oi := ⟨some 90, _, _, _, _, _⟩) (v := ?_) rfl (by kernel_rfl) (by kernel_rfl) (by kernel_rfl) (fun _ _ _ h => h) (Or.inl ⟨by rfl, ?_⟩) (by assumption) ?_
  rotate_left
  · (intro w hSw; (try dsimp only at hSw); go_simp; (try (with_reducible rfl)))
  (try simp only [Act.put, List.setIfInBounds_toArray, List.set_cons_zero, List.set_cons_succ])
  refine wpAnyH_take (i := 8) (oi := ⟨some 91, _, _, _, _, _⟩) (v := ?_) rfl (by kernel_rfl) (by kernel_rfl) (by kernel_rfl) (fun _ _ _ h => h) (Or.inl ⟨by rfl, ?_⟩) (by assumption) ?_
  rotate_left
  · (intro w hSw; (try dsimp only at hSw); go_simp; (try (with_reducible rfl)))
  (try simp only [Act.put, List.setIfInBounds_toArray, List.set_cons_zero, List.set_cons_succ])
  refine wpAnyH_ready (rs := [9]) (by kernel_rfl) (by simp) (AllReadyH.cons (o := ⟨some 92, _, _, _, _, _⟩) rfl (fun K hK => ?_) AllReadyH.nil)
  rw [if_pos (by rfl)]
  go_simp
  refine hK.out _ _ (by (try dsimp only); refine ⟨?_, ?_, ?_, ?_, ?_, ?_⟩ <;> first | with_reducible assumption | go_keep) (fun hHeld => ?_)
  clear hK K
  (try simp only [Act.put, List.setIfInBounds_toArray, List.set_cons_zero, List.set_cons_succ])
  refine wpAnyH_ready (rs := [10]) (by kernel_rfl) (by simp) (AllReadyH.cons (o := ⟨some 93, _, _, _, _, _⟩) rfl (fun K hK => ?_) AllReadyH.nil)
  rw [if_pos (by rfl)]
  go_simp
  go_at_call 20
  first | with_reducible refine Calls.mono (S2.out u1 B1.out) ?_ | refine Calls.mono (S2.out u1 B1.out) ?_
  rintro e u2 ⟨he, hb2⟩
  subst he
  clear S2 S2d
  have B2 := Lib.hid (B1.out.trans (hb2.mono B1.out.size))
  clear hb2
  have x0q2 := (X.out.below B2.out X.out.lt).c0
  have x1q2 := (X.out.below B2.out X.out.lt).c1
  have x2q2 := (X.out.below B2.out X.out.lt).c2
  have y0q2 := (Y.out.below B2.out Y.out.lt).c0
  have y1q2 := (Y.out.below B2.out Y.out.lt).c1
  have y2q2 := (Y.out.below B2.out Y.out.lt).c2
  (try go_wp2_with fail)
  refine hK.out _ _ (by (try dsimp only); refine ⟨?_, ?_, ?_, ?_, ?_, ?_⟩ <;> first | with_reducible assumption | go_keep) (fun hHeld => ?_)
  clear hK K
  (try simp only [Act.put, List.setIfInBounds_toArray, List.set_cons_zero, List.set_cons_succ])
  refine wpAnyH_take (i := 11) (oi := ⟨some 94, _, _, _, _, _⟩) (v := ?_) rfl (by kernel_rfl) (by kernel_rfl) (by kernel_rfl) (fun _ _ _ h => h) (Or.inl ⟨by rfl, ?_⟩) (by assumption) ?_
  rotate_left
  · (intro w hSw; (try dsimp only at hSw); go_simp; (try (with_reducible rfl)))
  (try simp only [Act.put, List.setIfInBounds_toArray, List.set_cons_zero, List.set_cons_succ])
  refine wpAnyH_take (i := 12) (oi := ⟨some 95, _, _, _, _, _⟩) (v := ?_) rfl (by kernel_rfl) (by kernel_rfl) (by kernel_rfl) (fun _ _ _ h => h) (Or.inl ⟨by rfl, ?_⟩) (by assumption) ?_
  rotate_left
  · (intro w hSw; (try dsimp only at hSw); go_simp; (try (with_reducible rfl)))
  (try simp only [Act.put, List.setIfInBounds_toArray, List.set_cons_zero, List.set_cons_succ])
  refine wpAnyH_take (i := 13) (oi := ⟨some 96, _, _, _, _, _⟩) (v := ?_) rfl (by kernel_rfl) (by kernel_rfl) (by kernel_rfl) (fun _ _ _ h => h) (Or.inl ⟨by rfl, ?_⟩) (by assumption) ?_
  rotate_left
  · (intro w hSw; (try dsimp only at hSw); go_simp; (try (with_reducible rfl)))
  (try simp only [Act.put, List.setIfInBounds_toArray, List.set_cons_zero, List.set_cons_succ])
  refine wpAnyH_ready (rs := [14]) (by kernel_rfl) (by simp) (AllReadyH.cons (o := ⟨some 97, _, _, _, _, _⟩) rfl (fun K hK => ?_) AllReadyH.nil)
  rw [if_pos (by rfl)]
  go_simp
  refine hK.out _ _ (by (try dsimp only); refine ⟨?_, ?_, ?_, ?_, ?_, ?_⟩ <;> first | with_reducible assumption | go_keep) (fun hHeld => ?_)
  clear hK K
  (try simp only [Act.put, List.setIfInBounds_toArray, List.set_cons_zero, List.set_cons_succ])
  refine wpAnyH_ready (rs := [15]) (by kernel_rfl) (by simp) (AllReadyH.cons (o := ⟨some 98, _, _, _, _, _⟩) rfl (fun K hK => ?_) AllReadyH.nil)
  rw [if_pos (by rfl)]
  go_simp
  go_at_call 20
  first | with_reducible refine Calls.mono (S3.out u2 B2.out) ?_ | refine Calls.mono (S3.out u2 B2.out) ?_
  rintro e u3 ⟨he, hb3⟩
  subst he
  clear S3 S3d
  have B3 := Lib.hid (B2.out.trans (hb3.mono B2.out.size))
  clear hb3
  have x0q3 := (X.out.below B3.out X.out.lt).c0
  have x1q3 := (X.out.below B3.out X.out.lt).c1
  have x2q3 := (X.out.below B3.out X.out.lt).c2
  have y0q3 := (Y.out.below B3.out Y.out.lt).c0
  have y1q3 := (Y.out.below B3.out Y.out.lt).c1
  have y2q3 := (Y.out.below B3.out Y.out.lt).c2
  (try go_wp2_with fail)
  refine hK.out _ _ (by (try dsimp only); refine ⟨?_, ?_, ?_, ?_, ?_, ?_⟩ <;> first | with_reducible assumption | go_keep) (fun hHeld => ?_)
  clear hK K
  (try simp only [Act.put, List.setIfInBounds_toArray, List.set_cons_zero, List.set_cons_succ])
  refine wpAnyH_take (i := 16) (oi := ⟨some 99, _, _, _, _, _⟩) (v := ?_) rfl (by kernel_rfl) (by kernel_rfl) (by kernel_rfl) (fun _ _ _ h => h) (Or.inl ⟨by rfl, ?_⟩) (by assumption) ?_
  rotate_left
  · (intro w hSw; (try dsimp only at hSw); go_simp; (try (with_reducible rfl)))
  (try simp only [Act.put, List.setIfInBounds_toArray, List.set_cons_zero, List.set_cons_succ])
  refine wpAnyH_take (i := 17) (oi := ⟨some 100, _, _, _, _, _⟩) (v := ?_) rfl (by kernel_rfl) (by kernel_rfl) (by kernel_rfl) (fun _ _ _ h => h) (Or.inl ⟨by rfl, ?_⟩) (by assumption) ?_
  rotate_left
  · (intro w hSw; (try dsimp only at hSw); go_simp; (try (with_reducible rfl)))
  (try simp only [Act.put, List.setIfInBounds_toArray, List.set_cons_zero, List.set_cons_succ])
  refine wpAnyH_take (i := 18) (oi := ⟨some 101, _, _, _, _, _⟩) (v := ?_) rfl (by kernel_rfl) (by kernel_rfl) (by kernel_rfl) (fun _ _ _ h => h) (Or.inl ⟨by rfl, ?_⟩) (by assumption) ?_
  rotate_left
  · (intro w hSw; (try dsimp only at hSw); go_simp; (try (with_reducible rfl)))
  (try simp only [Act.put, List.setIfInBounds_toArray, List.set_cons_zero, List.set_cons_succ])
  refine wpAnyH_ready (rs := [19]) (by kernel_rfl) (by simp) (AllReadyH.cons (o := ⟨some 102, _, _, _, _, _⟩) rfl (fun K hK => ?_) AllReadyH.nil)
  rw [if_pos (by rfl)]
  go_simp
  go_at_call 69
  refine Calls.mono (aw_quo true 1 2 (by omega) (by omega) (by omega) (by omega) _) ?_
  rintro e u4 ⟨Ap, lp, cp, Dp, mp, dp, he, hnp, hdp, hb4⟩
  subst he
  have B4 := Lib.hid (B3.out.trans (hb4.mono B3.out.size))
  clear hb4
  have x0q4 := (X.out.below B4.out X.out.lt).c0
  have x1q4 := (X.out.below B4.out X.out.lt).c1
  have x2q4 := (X.out.below B4.out X.out.lt).c2
  have y0q4 := (Y.out.below B4.out Y.out.lt).c0
  have y1q4 := (Y.out.below B4.out Y.out.lt).c1
  have y2q4 := (Y.out.below B4.out Y.out.lt).c2
  have Np := Lib.hid hnp
  have Ep := Lib.hid hdp
  clear hnp hdp
  (try go_wp2_with fail)
  refine hK.out _ _ (by (try dsimp only); refine ⟨?_, ?_, ?_, ?_, ?_, ?_⟩ <;> first | with_reducible assumption | go_keep) (fun hHeld => ?_)
  clear hK K
  (try simp only [Act.put, List.setIfInBounds_toArray, List.set_cons_zero, List.set_cons_succ])
  refine wpAnyH_ready (rs := [20]) (by kernel_rfl) (by simp) (AllReadyH.cons (o := ⟨some 103, _, _, _, _, _⟩) rfl (fun K hK => ?_) AllReadyH.nil)
  rw [if_pos (by rfl)]
  go_simp
  go_at_call 53
  refine Calls.mono (S5.out u4 B4.out _ _ Np.out Ep.out) ?_
  rintro e u5 ⟨he, hb5⟩
  subst he
  clear S5
  have B5 := Lib.hid (B4.out.trans (hb5.mono B4.out.size))
  clear hb5
  have x0q5 := (X.out.below B5.out X.out.lt).c0
  have x1q5 := (X.out.below B5.out X.out.lt).c1
  have x2q5 := (X.out.below B5.out X.out.lt).c2
  have y0q5 := (Y.out.below B5.out Y.out.lt).c0
  have y1q5 := (Y.out.below B5.out Y.out.lt).c1
  have y2q5 := (Y.out.below B5.out Y.out.lt).c2
  (try go_wp2_with fail)
  refine hK.out _ _ (by (try dsimp only); refine ⟨?_, ?_, ?_, ?_, ?_, ?_⟩ <;> first | with_reducible assumption | go_keep) (fun hHeld => ?_)
  clear hK K
  (try simp only [Act.put, List.setIfInBounds_toArray, List.set_cons_zero, List.set_cons_succ])
  refine wpAnyH_take (i := 21) (oi := ⟨some 104, _, _, _, _, _⟩) (v := ?_) rfl (by kernel_rfl) (by kernel_rfl) (by kernel_rfl) (fun _ _ _ h => h) (Or.inl ⟨by rfl, ?_⟩) (by assumption) ?_
  rotate_left
  · (intro w hSw; (try dsimp only at hSw); go_simp; (try (with_reducible rfl)))
  (try simp only [Act.put, List.setIfInBounds_toArray, List.set_cons_zero, List.set_cons_succ])
  refine wpAnyH_take (i := 22) (oi := ⟨some 105, _, _, _, _, _⟩) (v := ?_) rfl (by kernel_rfl) (by kernel_rfl) (by kernel_rfl) (fun _ _ _ h => h) (Or.inl ⟨by rfl, ?_⟩) (by assumption) ?_
  rotate_left
  · (intro w hSw; (try dsimp only at hSw); go_simp; (try (with_reducible rfl)))
  (try simp only [Act.put, List.setIfInBounds_toArray, List.set_cons_zero, List.set_cons_succ])
  refine wpAnyH_take (i := 23) (oi := ⟨some 106, _, _, _, _, _⟩) (v := ?_) rfl (by kernel_rfl) (by kernel_rfl) (by kernel_rfl) (fun _ _ _ h => h) (Or.inl ⟨by rfl, ?_⟩) (by assumption) ?_
  rotate_left
  · (intro w hSw; (try dsimp only at hSw); go_simp; (try (with_reducible rfl)))
  (try simp only [Act.put, List.setIfInBounds_toArray, List.set_cons_zero, List.set_cons_succ])
  refine wpAnyH_take (i := 24) (oi := ⟨some 107, _, _, _, _, _⟩) (v := ?_) rfl (by kernel_rfl) (by kernel_rfl) (by kernel_rfl) (fun _ _ _ h => h) (Or.inl ⟨by rfl, ?_⟩) (by assumption) ?_
  rotate_left
  · (intro w hSw; (try dsimp only at hSw); go_simp; (try (with_reducible rfl)))
  (try simp only [Act.put, List.setIfInBounds_toArray, List.set_cons_zero, List.set_cons_succ])
  refine wpAnyH_take (i := 25) (oi := ⟨some 108, _, _, _, _, _⟩) (v := ?_) rfl (by kernel_rfl) (by kernel_rfl) (by kernel_rfl) (fun _ _ _ h => h) (Or.inl ⟨by rfl, ?_⟩) (by assumption) ?_
  rotate_left
  · (intro w hSw; (try dsimp only at hSw); go_simp; (try (with_reducible rfl)))
  (try simp only [Act.put, List.setIfInBounds_toArray, List.set_cons_zero, List.set_cons_succ])
  refine wpAnyH_take (i := 26) (oi := ⟨some 109, _, _, _, _, _⟩) (v := ?_) rfl (by kernel_rfl) (by kernel_rfl) (by kernel_rfl) (fun _ _ _ h => h) (Or.inl ⟨by rfl, ?_⟩) (by assumption) ?_
  rotate_left
  · (intro w hSw; (try dsimp only at hSw); go_simp; (try (with_reducible rfl)))
  (try simp only [Act.put, List.setIfInBounds_toArray, List.set_cons_zero, List.set_cons_succ])
  refine wpAnyH_ready (rs := [27]) (by kernel_rfl) (by simp) (AllReadyH.cons (o := ⟨some 110, _, _, _, _, _⟩) rfl (fun K hK => ?_) AllReadyH.nil)
  rw [if_pos (by rfl)]
  go_simp
  refine hK.out _ _ (by (try dsimp only); refine ⟨?_, ?_, ?_, ?_, ?_, ?_⟩ <;> first | with_reducible assumption | go_keep) (fun hHeld => ?_)
  clear hK K
  (try simp only [Act.put, List.setIfInBounds_toArray, List.set_cons_zero, List.set_cons_succ])
  refine wpAnyH_ready (rs := [28]) (by kernel_rfl) (by simp) (AllReadyH.cons (o := ⟨some 111, _, _, _, _, _⟩) rfl (fun K hK => ?_) AllReadyH.nil)
  rw [if_pos (by rfl)]
  go_simp
  go_at_call 20
  first | with_reducible refine Calls.mono (S6.out u5 B5.out) ?_ | refine Calls.mono (S6.out u5 B5.out) ?_
  rintro e u6 ⟨he, hb6⟩
  subst he
  clear S6 S6d
  have B6 := Lib.hid (B5.out.trans (hb6.mono B5.out.size))
  clear hb6
  have x0q6 := (X.out.below B6.out X.out.lt).c0
  have x1q6 := (X.out.below B6.out X.out.lt).c1
  have x2q6 := (X.out.below B6.out X.out.lt).c2
  have y0q6 := (Y.out.below B6.out Y.out.lt).c0
  have y1q6 := (Y.out.below B6.out Y.out.lt).c1
  have y2q6 := (Y.out.below B6.out Y.out.lt).c2
  (try go_wp2_with fail)
  refine hK.out _ _ (by (try dsimp only); refine ⟨?_, ?_, ?_, ?_, ?_, ?_⟩ <;> first | with_reducible assumption | go_keep) (fun hHeld => ?_)
  clear hK K
  (try simp only [Act.put, List.setIfInBounds_toArray, List.set_cons_zero, List.set_cons_succ])
  refine wpAnyH_take (i := 29) (oi := ⟨some 112, _, _, _, _, _⟩) (v := ?_) rfl (by kernel_rfl) (by kernel_rfl) (by kernel_rfl) (fun _ _ _ h => h) (Or.inl ⟨by rfl, ?_⟩) (by assumption) ?_
  rotate_left
  · (intro w hSw; (try dsimp only at hSw); go_simp; (try (with_reducible rfl)))
  (try simp only [Act.put, List.setIfInBounds_toArray, List.set_cons_zero, List.set_cons_succ])
  refine wpAnyH_take (i := 30) (oi := ⟨some 113, _, _, _, _, _⟩) (v := ?_) rfl (by kernel_rfl) (by kernel_rfl) (by kernel_rfl) (fun _ _ _ h => h) (Or.inl ⟨by rfl, ?_⟩) (by assumption) ?_
  rotate_left
  · (intro w hSw; (try dsimp only at hSw); go_simp; (try (with_reducible rfl)))
  (try simp only [Act.put, List.setIfInBounds_toArray, List.set_cons_zero, List.set_cons_succ])
  refine wpAnyH_take (i := 31) (oi := ⟨some 114, _, _, _, _, _⟩) (v := ?_) rfl (by kernel_rfl) (by kernel_rfl) (by kernel_rfl) (fun _ _ _ h => h) (Or.inl ⟨by rfl, ?_⟩) (by assumption) ?_
  rotate_left
  · (intro w hSw; (try dsimp only at hSw); go_simp; (try (with_reducible rfl)))
  (try simp only [Act.put, List.setIfInBounds_toArray, List.set_cons_zero, List.set_cons_succ])
  refine wpAnyH_ready (rs := [32]) (by kernel_rfl) (by simp) (AllReadyH.cons (o := ⟨some 115, _, _, _, _, _⟩) rfl (fun K hK => ?_) AllReadyH.nil)
  rw [if_pos (by rfl)]
  go_simp
  go_at_call 69
  refine Calls.mono (aw_quo true 27 8 (by omega) (by omega) (by omega) (by omega) _) ?_
  rintro e u7 ⟨Ar, lr, cr, Dr, mr, dr, he, hnr, hdr, hb7⟩
  subst he
  have B7 := Lib.hid (B6.out.trans (hb7.mono B6.out.size))
  clear hb7
  have x0q7 := (X.out.below B7.out X.out.lt).c0
  have x1q7 := (X.out.below B7.out X.out.lt).c1
  have x2q7 := (X.out.below B7.out X.out.lt).c2
  have y0q7 := (Y.out.below B7.out Y.out.lt).c0
  have y1q7 := (Y.out.below B7.out Y.out.lt).c1
  have y2q7 := (Y.out.below B7.out Y.out.lt).c2
  have Nr := Lib.hid hnr
  have Er := Lib.hid hdr
  clear hnr hdr
  (try go_wp2_with fail)
  refine hK.out _ _ (by (try dsimp only); refine ⟨?_, ?_, ?_, ?_, ?_, ?_⟩ <;> first | with_reducible assumption | go_keep) (fun hHeld => ?_)
  clear hK K
  (try simp only [Act.put, List.setIfInBounds_toArray, List.set_cons_zero, List.set_cons_succ])
  refine wpAnyH_ready (rs := [33]) (by kernel_rfl) (by simp) (AllReadyH.cons (o := ⟨some 116, _, _, _, _, _⟩) rfl (fun K hK => ?_) AllReadyH.nil)
  rw [if_pos (by rfl)]
  go_simp
  go_at_call 53
  refine Calls.mono (S8.out u7 B7.out _ _ Nr.out Er.out) ?_
  rintro e u8 ⟨he, hb8⟩
  subst he
  clear S8
  have B8 := Lib.hid (B7.out.trans (hb8.mono B7.out.size))
  clear hb8
  have x0q8 := (X.out.below B8.out X.out.lt).c0
  have x1q8 := (X.out.below B8.out X.out.lt).c1
  have x2q8 := (X.out.below B8.out X.out.lt).c2
  have y0q8 := (Y.out.below B8.out Y.out.lt).c0
  have y1q8 := (Y.out.below B8.out Y.out.lt).c1
  have y2q8 := (Y.out.below B8.out Y.out.lt).c2
  (try go_wp2_with fail)
  refine hK.out _ _ (by (try dsimp only); refine ⟨?_, ?_, ?_, ?_, ?_, ?_⟩ <;> first | with_reducible assumption | go_keep) (fun hHeld => ?_)
  clear hK K
  (try simp only [Act.put, List.setIfInBounds_toArray, List.set_cons_zero, List.set_cons_succ])
  refine wpAnyH_take (i := 34) (oi := ⟨some 117, _, _, _, _, _⟩) (v := ?_) rfl (by kernel_rfl) (by kernel_rfl) (by kernel_rfl) (fun _ _ _ h => h) (Or.inl ⟨by rfl, ?_⟩) (by assumption) ?_
  rotate_left
  · (intro w hSw; (try dsimp only at hSw); go_simp; (try (with_reducible rfl)))
  (try simp only [Act.put, List.setIfInBounds_toArray, List.set_cons_zero, List.set_cons_succ])
  refine wpAnyH_take (i := 35) (oi := ⟨some 118, _, _, _, _, _⟩) (v := ?_) rfl (by kernel_rfl) (by kernel_rfl) (by kernel_rfl) (fun _ _ _ h => h) (Or.inl ⟨by rfl, ?_⟩) (by assumption) ?_
  rotate_left
  · (intro w hSw; (try dsimp only at hSw); go_simp; (try (with_reducible rfl)))
  (try simp only [Act.put, List.setIfInBounds_toArray, List.set_cons_zero, List.set_cons_succ])
  refine wpAnyH_take (i := 36) (oi := ⟨some 119, _, _, _, _, _⟩) (v := ?_) rfl (by kernel_rfl) (by kernel_rfl) (by kernel_rfl) (fun _ _ _ h => h) (Or.inl ⟨by rfl, ?_⟩) (by assumption) ?_
  rotate_left
  · (intro w hSw; (try dsimp only at hSw); go_simp; (try (with_reducible rfl)))
  (try simp only [Act.put, List.setIfInBounds_toArray, List.set_cons_zero, List.set_cons_succ])
  refine wpAnyH_ready (rs := [37]) (by kernel_rfl) (by simp) (AllReadyH.cons (o := ⟨some 120, _, _, _, _, _⟩) rfl (fun K hK => ?_) AllReadyH.nil)
  rw [if_pos (by rfl)]
  go_simp
  refine hK.out _ _ (by (try dsimp only); refine ⟨?_, ?_, ?_, ?_, ?_, ?_⟩ <;> first | with_reducible assumption | go_keep) (fun hHeld => ?_)
  clear hK K
  (try simp only [Act.put, List.setIfInBounds_toArray, List.set_cons_zero, List.set_cons_succ])
  refine wpAnyH_ready (rs := [38]) (by kernel_rfl) (by simp) (AllReadyH.cons (o := ⟨some 121, _, _, _, _, _⟩) rfl (fun K hK => ?_) AllReadyH.nil)
  rw [if_pos (by rfl)]
  go_simp
  go_at_call 20
  first | with_reducible refine Calls.mono (S9.out u8 B8.out) ?_ | refine Calls.mono (S9.out u8 B8.out) ?_
  rintro e u9 ⟨he, hb9⟩
  subst he
  clear S9 S9d
  have B9 := Lib.hid (B8.out.trans (hb9.mono B8.out.size))
  clear hb9
  have x0q9 := (X.out.below B9.out X.out.lt).c0
  have x1q9 := (X.out.below B9.out X.out.lt).c1
  have x2q9 := (X.out.below B9.out X.out.lt).c2
  have y0q9 := (Y.out.below B9.out Y.out.lt).c0
  have y1q9 := (Y.out.below B9.out Y.out.lt).c1
  have y2q9 := (Y.out.below B9.out Y.out.lt).c2
  (try go_wp2_with fail)
  refine hK.out _ _ (by (try dsimp only); refine ⟨?_, ?_, ?_, ?_, ?_, ?_⟩ <;> first | with_reducible assumption | go_keep) (fun hHeld => ?_)
  clear hK K
  (try simp only [Act.put, List.setIfInBounds_toArray, List.set_cons_zero, List.set_cons_succ])
  refine wpAnyH_take (i := 39) (oi := ⟨some 122, _, _, _, _, _⟩) (v := ?_) rfl (by kernel_rfl) (by kernel_rfl) (by kernel_rfl) (fun _ _ _ h => h) (Or.inl ⟨by rfl, ?_⟩) (by assumption) ?_
  rotate_left
  · (intro w hSw; (try dsimp only at hSw); go_simp; (try (with_reducible rfl)))
  (try simp only [Act.put, List.setIfInBounds_toArray, List.set_cons_zero, List.set_cons_succ])
  refine wpAnyH_take (i := 40) (oi := ⟨some 0, _, _, _, _, _⟩) (v := ?_) rfl (by kernel_rfl) (by kernel_rfl) (by kernel_rfl) (fun _ _ _ h => h) (Or.inl ⟨by rfl, ?_⟩) (by assumption) ?_
  rotate_left
  · (intro w hSw; (try dsimp only at hSw); go_simp; (try (with_reducible rfl)))
  (try simp only [Act.put, List.setIfInBounds_toArray, List.set_cons_zero, List.set_cons_succ])
  refine wpAnyH_done (by kernel_rfl) ?_ _
  refine NoPanic.normal ?_
  go_wp2_with fail
  go_ret
  exact ⟨rfl, HB.out.trans (B9.out.mono HB.out.size)⟩
end Go.Proofs.YtlababdfdjjjaaaGreatDoor
