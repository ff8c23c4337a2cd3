import Derived.Test.YtmmgbofhbnflkaaIQ14
namespace Go.Proofs.Ytmmgbofhbnflkaa
open Go.RowKit

/-! The reference's Scale. -/
theorem spanN {ys : List FV} {c : Nat → Int} {d n : Nat} (hd : d ≠ 0) (hl : ys.length = n) (hy : ∀ (k : Nat) (y : FV), ys[k]? = some y → y.D ≠ 0 ∧ y.N * (d : Int) = c k * (y.D : Int)) {e : Ending} {W W' : World} (h : SpPost W ys e W') :
    ∃ i j, i < n ∧ j < n ∧ (∀ k, k < n → c i ≤ c k ∧ c k ≤ c j) ∧ e = .returned (ivE (spanW (c i / (d : Int)) (upI (c j) (d : Int)))) ∧ Below W.heap.size W W' := by
  obtain ⟨x, y, hxm, hym, hall, he, hb⟩ := h
  obtain ⟨i, hi⟩ := List.mem_iff_getElem?.1 hxm
  obtain ⟨j, hj⟩ := List.mem_iff_getElem?.1 hym
  have hx := hy i x hi
  have hy' := hy j y hj
  refine ⟨i, j, by rw [← hl]; exact (List.getElem?_eq_some_iff.1 hi).1, by rw [← hl]; exact (List.getElem?_eq_some_iff.1 hj).1, fun k hk => ?_, ?_, hb⟩
  · have hz : ys[k]? = some (ys[k]'(by omega)) := List.getElem?_eq_getElem (by omega)
    have hzz := hy k _ hz
    obtain ⟨l1, l2⟩ := hall _ (List.mem_of_getElem? hz)
    have e1 := cross_trans (N1 := c i) (D1 := d) (N2 := x.N) (D2 := x.D) (N3 := (ys[k]'(by omega)).N) (D3 := (ys[k]'(by omega)).D) hx.1 (Int.le_of_eq hx.2.symm) l1
    have e2 := cross_trans (N1 := c i) (D1 := d) (N2 := (ys[k]'(by omega)).N) (D2 := (ys[k]'(by omega)).D) (N3 := c k) (D3 := d) hzz.1 e1 (Int.le_of_eq hzz.2)
    have e3 := cross_trans (N1 := c k) (D1 := d) (N2 := (ys[k]'(by omega)).N) (D2 := (ys[k]'(by omega)).D) (N3 := y.N) (D3 := y.D) hzz.1 (Int.le_of_eq hzz.2.symm) l2
    have e4 := cross_trans (N1 := c k) (D1 := d) (N2 := y.N) (D2 := y.D) (N3 := c j) (D3 := d) hy'.1 e3 (Int.le_of_eq hy'.2)
    have p : (0 : Int) < (d : Int) := by omega
    exact ⟨Int.le_of_mul_le_mul_right e2 p, Int.le_of_mul_le_mul_right e4 p⟩
  · rw [he, floor_same hx.1 hd hx.2, up_same hy'.1 hd hy'.2]
theorem span2 (w : World) (L : Nat) (x y : FV) (hL : L ≤ 512) (hx : x.ok w L) (hy : y.ok w L) :
    Calls Try.prog 54 #[.slice (some ⟨w.heap.size, 0, none⟩) 2 2] (w.alloc (.cells #[.bool x.s, .slice x.A x.n x.c, .slice x.B x.m x.d, .bool y.s, .slice y.A y.n y.c, .slice y.B y.m y.d] 61)) fun e w' => ∃ W, Below w.heap.size w W ∧ SpPost W [x, y] e w' := by
  have hb : Below w.heap.size w (w.alloc (.cells #[.bool x.s, .slice x.A x.n x.c, .slice x.B x.m x.d, .bool y.s, .slice y.A y.n y.c, .slice y.B y.m y.d] 61)) := Below.one w _
  have h := Span_any w.heap.size 2 L [x, y] (w.alloc (.cells #[.bool x.s, .slice x.A x.n x.c, .slice x.B x.m x.d, .bool y.s, .slice y.A y.n y.c, .slice y.B y.m y.d] 61)) hL (by simp) (by simp) (at2 w x y) (fun z hz => by
    simp at hz
    rcases hz with rfl | rfl
    · exact FQ.up hx hb
    · exact FQ.up hy hb)
  exact h.mono fun e w' h => ⟨_, hb, h⟩
theorem scale_pure (a1 a2 num : Int) (den i j : Nat) (c : Nat → Int) (h0 : c 0 = a1 * num) (h1 : c 1 = a2 * num) (hi : i < 2) (hj : j < 2) (h : ∀ k, k < 2 → c i ≤ c k ∧ c k ≤ c j) : spanW (c i / (den : Int)) (upI (c j) (den : Int)) = prodsW (a1, a2) (num, num) (den : Int) := by
  have q0 := h 0 (by omega)
  have q1 := h 1 (by omega)
  have hmn : minW (a1, a2) (num, num) = c i := by
    unfold minW
    simp only
    rw [← h0, ← h1]
    have : i = 0 ∨ i = 1 := by omega
    rcases this with rfl | rfl <;> omega
  have hmx : maxW (a1, a2) (num, num) = c j := by
    unfold maxW
    simp only
    rw [← h0, ← h1]
    have : j = 0 ∨ j = 1 := by omega
    rcases this with rfl | rfl <;> omega
  unfold prodsW
  rw [hmn, hmx]

set_option maxRecDepth 100000 in
set_option maxHeartbeats 8000000 in
theorem rScale_any (a : Int × Int) (num den : Int) (w : World) :
    Calls Try.prog 22 #[ivV a, .int .i64 num, .int .i64 den] w fun e w' => e = .returned (ivE (scaleE a num den)) ∧ Below w.heap.size w w' := by
  have hck := fun W => rcheck_any a W
  have HCK := Lib.hid hck
  clear hck
  by_cases h0 : examI [a] = 0
  · rw [h0] at HCK
    obtain ⟨ho1, ho2, hle⟩ := examI_ok h0 a (by simp)
    by_cases hbad : 1 ≤ den ∧ okB den = true ∧ okB num = true
    · obtain ⟨hden, hod, hon⟩ := hbad
      have hod' := okB_iff.1 hod
      have hon' := okB_iff.1 hon
      have hq1 := fun W => Quo03_any a.1 (okB_iff.1 ho1) W
      have hq2 := fun W => Quo03_any a.2 (okB_iff.1 ho2) W
      have hov := fun W => over03_any num den hon' (by omega) W
      obtain ⟨dn, hdn⟩ : ∃ dn : Nat, den = (dn : Int) := ⟨den.toNat, by omega⟩
      have hres : scaleE a num den = prodsW (a.1, a.2) (num, num) (dn : Int) := by
        unfold scaleE scaleW
        rw [if_pos h0, if_pos ⟨hden, hod, hon⟩, hdn]
      rw [hres]
      have hsp : ∀ (x y : FV) (e : Ending) (W V W' : World), Below V.heap.size V W → x.D ≠ 0 → y.D ≠ 0 → x.N * (dn : Int) = a.1 * num * (x.D : Int) → y.N * (dn : Int) = a.2 * num * (y.D : Int) → SpPost W [x, y] e W' → e = .returned (ivE (prodsW (a.1, a.2) (num, num) (dn : Int))) ∧ Below V.heap.size V W' := by
        intro x y e W V W' hV e1 e2 e3 e4 h
        obtain ⟨i, j, hi, hj, hall, he, hb⟩ := spanN (c := fun k => if k = 0 then a.1 * num else a.2 * num) (d := dn) (n := 2) (by omega) rfl (fun k z hz => by
          match k, hz with
          | 0, hz => simp at hz; subst hz; exact ⟨e1, e3⟩
          | 1, hz => simp at hz; subst hz; exact ⟨e2, e4⟩
          | k + 2, hz => simp at hz) h
        have hp := scale_pure a.1 a.2 num dn i j (fun k => if k = 0 then a.1 * num else a.2 * num) rfl rfl hi hj hall
        rw [hp] at he
        exact ⟨he, Below.after hV hb⟩
      obtain ⟨sx, sy, sc, hform⟩ : ∃ x y z, prodsW (a.1, a.2) (num, num) (dn : Int) = ((x, y), z) := ⟨_, _, _, rfl⟩
      rw [hform] at hsp ⊢
      have HQ1 := Lib.hid hq1
      have HQ2 := Lib.hid hq2
      have HOV := Lib.hid hov
      have HSP := Lib.hid hsp
      have HDN := Lib.hid hdn
      have t1 : ¬ den < 1 := by omega
      have t2 : ¬ 4611686018427387904 < den := by omega
      have t3 : ¬ num < -4611686018427387904 := by omega
      have t4 : ¬ 4611686018427387904 < num := by omega
      clear hq1 hq2 hov hres hsp hform h0 ho1 ho2 hle hod hon hod' hon' hden hdn
      obtain ⟨a1, a2⟩ := a
      unfold ivE ivV at HSP ⊢
      unfold ivV at HCK
      simp only at HCK HQ1 HQ2 HSP ⊢
      go_enter Try.func22, Try.ntmps22
      go_wp2_with fail
      refine (HCK.out _).mono ?_
      rintro e w1 ⟨he, hb⟩
      subst he
      have F1 := Fm.of2 hb
      have c10 := F1.k0.c0
      have c11 := F1.k0.c1
      clear hb
      go_wp2_with fail
      refine (HOV.out _).mono ?_
      rintro e w2 ⟨sq, Aq, lq, pq, Bq, mq, dq, Nq, Dq, he, hfq, hPq, hb2⟩
      subst he
      have HPq := Lib.hid hPq
      have HFq0 := Lib.hid hfq.ne
      have F2 := (F1.later hb2).alloc (.cells #[.bool sq, .slice Aq lq pq, .slice Bq mq dq] 61)
      have HQqx := Lib.hid (QB.new w2 sq (.slice Aq lq pq) (.slice Bq mq dq))
      have HFqx := Lib.hid (FQ.up hfq (Below.one w2 (.cells #[.bool sq, .slice Aq lq pq, .slice Bq mq dq] 61)))
      have HKx := Lib.hid F2.k0
      have HF2 := Lib.hid F2
      clear hPq hfq F1 F2 hb2 c10 c11
      go_wp2_with fail
      generalize w2.alloc (.cells #[.bool sq, .slice Aq lq pq, .slice Bq mq dq] 61) = V2 at *
      have c10 := HKx.out.c0
      have c00 := HQqx.out.c0
      have c01 := HQqx.out.c1
      have c02 := HQqx.out.c2
      go_region_held3 (fun w' => w'.cell? ⟨w.heap.size, 0, none⟩ = some (.int .i64 a1) ∧ w'.cell? ⟨w2.heap.size, 0, none⟩ = some (.bool sq) ∧ w'.cell? ⟨w2.heap.size, 1, none⟩ = some (.slice Aq lq pq) ∧ w'.cell? ⟨w2.heap.size, 2, none⟩ = some (.slice Bq mq dq))
        (((try dsimp only); refine ⟨?_, ?_, ?_, ?_⟩ <;> first | with_reducible assumption | with_reducible exact kpa0x _ _ _ | with_reducible exact kpa1x _ _ _ | with_reducible exact kpa2x _ _ _ | with_reducible exact kpa3x _ _ _ | with_reducible exact kpb0x _ _ _ | with_reducible exact kpb1x _ _ _ | with_reducible exact kpb2x _ _ _ | with_reducible exact kpb3x _ _ _ | go_keep))
        (first
          | (go_at_call 53; refine Calls.mono (HQ1.out _) ?_; rintro e w3x ⟨s1x, A1x, l1x, p1x, B1x, m1x, d1x, N1x, D1x, he, hf1x, ⟨hN1x, hD1x⟩, hb3x⟩; subst he; rw [hN1x, hD1x] at hf1x; clear hN1x hD1x; have hb30x := Below.after (by first | with_reducible exact Below.d0 V2 | with_reducible exact Below.d1 V2 _) hb3x; have KKax := HKx.out.later hb30x; have cAax := KKax.c0; have QQax := HQqx.out.below hb30x HQqx.out.lt; have c0ax := QQax.c0; have c1ax := QQax.c1; have c2ax := QQax.c2; (try (with_reducible have qax := QB.below (QB.new_drew V2 false (.slice none 0 0) (.slice none 0 0)) hb3x (QB.lt (QB.new_drew V2 false (.slice none 0 0) (.slice none 0 0))))); (try (have qAx : QB w3x V2.heap.size false (.slice none 0 0) (.slice none 0 0) := qax)); (try clear qax); have HFMx := Lib.hid (fun (W : World) (b : Below w3x.heap.size w3x W) => fmul (FQ.up hf1x b) (FQ.up (FQ.up HFqx.out hb30x) b) (by decide)))
          | (go_at_call 52; refine Calls.mono (HFMx.out _ (by first | with_reducible exact Below.id _ | with_reducible exact Below.one _ _)) ?_; rintro e w4x ⟨s3x, A3x, l3x, p3x, B3x, m3x, d3x, N3x, D3x, he, hf3x, hP3x, hb4x⟩; subst he; have HP3x := Lib.hid hP3x; clear hP3x; have hb40x := Below.after (Below.after hb30x (by first | with_reducible exact Below.id _ | with_reducible exact Below.one _ _)) hb4x; have KKbx := HKx.out.later hb40x; have cAbx := KKbx.c0; have QQbx := HQqx.out.below hb40x HQqx.out.lt; have c0bx := QQbx.c0; have c1bx := QQbx.c1; have c2bx := QQbx.c2; (try (with_reducible have qBx := QB.below qAx hb4x (QB.lt qAx))); (try (with_reducible have qBx := QB.below (QB.new w3x false (.slice none 0 0) (.slice none 0 0)) hb4x (QB.lt (QB.new w3x false (.slice none 0 0) (.slice none 0 0))))); (try have r0x := QB.c0 qBx); (try have r1x := QB.c1 qBx); (try have r2x := QB.c2 qBx); (try have r3x := QB.fr qBx 0); (try have r4x := QB.fr qBx 1); (try have r5x := QB.fr qBx 2); have hsax : w.heap.size ≠ V2.heap.size := Nat.ne_of_lt HKx.out.lt; have hsqx : w2.heap.size ≠ V2.heap.size := Nat.ne_of_lt HQqx.out.lt; have hsbx : w.heap.size ≠ w3x.heap.size := Nat.ne_of_lt KKax.lt; have hsrx : w2.heap.size ≠ w3x.heap.size := Nat.ne_of_lt QQax.lt; have kpa0x := cell_other3 (k := V2.heap.size) cAbx hsax; have kpb0x := cell_other3 (k := w3x.heap.size) cAbx hsbx; have kpa1x := cell_other3 (k := V2.heap.size) c0bx hsqx; have kpb1x := cell_other3 (k := w3x.heap.size) c0bx hsrx; have kpa2x := cell_other3 (k := V2.heap.size) c1bx hsqx; have kpb2x := cell_other3 (k := w3x.heap.size) c1bx hsrx; have kpa3x := cell_other3 (k := V2.heap.size) c2bx hsqx; have kpb3x := cell_other3 (k := w3x.heap.size) c2bx hsrx; clear hsax hsqx hsbx hsrx))
      all_goals
        clear kpa0x kpb0x kpa1x kpb1x kpa2x kpb2x kpa3x kpb3x cAax cAbx c0ax c0bx c1ax c1bx c2ax c2bx KKax KKbx QQax QQbx
        first
          | (have hq9x := QB.write qBx s3x (.slice A3x l3x p3x) (.slice B3x m3x d3x)
             have hf9x := FQ.wrote hf3x qBx s3x (.slice A3x l3x p3x) (.slice B3x m3x d3x)
             have hb9x := wroteQ_below (g := V2.heap.size) hb40x (Nat.le_refl _) s3x (.slice A3x l3x p3x) (.slice B3x m3x d3x)
             simp only [wroteQ] at hq9x hf9x hb9x
             clear qAx qBx r0x r1x r2x r3x r4x r5x
             generalize ((w4x.setCell ⟨V2.heap.size, 0, none⟩ _).setCell ⟨V2.heap.size, 1, none⟩ _).setCell ⟨V2.heap.size, 2, none⟩ _ = W9x at *
             have HQ9x := Lib.hid (show QB W9x V2.heap.size s3x (.slice A3x l3x p3x) (.slice B3x m3x d3x) from hq9x))
          | (have hq9x := QB.write qBx s3x (.slice A3x l3x p3x) (.slice B3x m3x d3x)
             have hf9x := FQ.wrote hf3x qBx s3x (.slice A3x l3x p3x) (.slice B3x m3x d3x)
             have hb9x := wroteQ_below (g := w3x.heap.size) hb40x hb30x.size s3x (.slice A3x l3x p3x) (.slice B3x m3x d3x)
             simp only [wroteQ] at hq9x hf9x hb9x
             clear qBx r0x r1x r2x r3x r4x r5x
             generalize ((w4x.setCell ⟨w3x.heap.size, 0, none⟩ _).setCell ⟨w3x.heap.size, 1, none⟩ _).setCell ⟨w3x.heap.size, 2, none⟩ _ = W9x at *
             have HQ9x := Lib.hid (show QB W9x w3x.heap.size s3x (.slice A3x l3x p3x) (.slice B3x m3x d3x) from hq9x))
          | (have hq9x := QB.new w4x s3x (.slice A3x l3x p3x) (.slice B3x m3x d3x)
             have hf9x := FQ.up hf3x (Below.one w4x (.cells #[.bool s3x, .slice A3x l3x p3x, .slice B3x m3x d3x] 61))
             have hb9x := Below.after hb40x (Below.one w4x (.cells #[.bool s3x, .slice A3x l3x p3x, .slice B3x m3x d3x] 61))
             generalize w4x.alloc _ = W9x at *
             have HQ9x := Lib.hid (show QB W9x w4x.heap.size s3x (.slice A3x l3x p3x) (.slice B3x m3x d3x) from hq9x))
        have HF9x := Lib.hid hf9x
        have HB9x := Lib.hid hb9x
        clear hq9x hf9x hb9x hf1x hf3x hb3x hb30x hb4x hb40x HFMx
        have HKy := Lib.hid (HKx.out.later HB9x.out)
        have HQqy := Lib.hid (HQqx.out.below HB9x.out HQqx.out.lt)
        have HFqy := Lib.hid (FQ.up HFqx.out HB9x.out)
        clear c10 c00 c01 c02
        have c11 := HKy.out.c1
        have c00 := HQqy.out.c0
        have c01 := HQqy.out.c1
        have c02 := HQqy.out.c2
        go_wp2_with fail
        go_region_held3 (fun w' => w'.cell? ⟨w.heap.size, 1, none⟩ = some (.int .i64 a2) ∧ w'.cell? ⟨w2.heap.size, 0, none⟩ = some (.bool sq) ∧ w'.cell? ⟨w2.heap.size, 1, none⟩ = some (.slice Aq lq pq) ∧ w'.cell? ⟨w2.heap.size, 2, none⟩ = some (.slice Bq mq dq))
          (((try dsimp only); refine ⟨?_, ?_, ?_, ?_⟩ <;> first | with_reducible assumption | with_reducible exact kpa0y _ _ _ | with_reducible exact kpa1y _ _ _ | with_reducible exact kpa2y _ _ _ | with_reducible exact kpa3y _ _ _ | with_reducible exact kpb0y _ _ _ | with_reducible exact kpb1y _ _ _ | with_reducible exact kpb2y _ _ _ | with_reducible exact kpb3y _ _ _ | go_keep))
          (first
            | (go_at_call 53; refine Calls.mono (HQ2.out _) ?_; rintro e w3y ⟨s1y, A1y, l1y, p1y, B1y, m1y, d1y, N1y, D1y, he, hf1y, ⟨hN1y, hD1y⟩, hb3y⟩; subst he; rw [hN1y, hD1y] at hf1y; clear hN1y hD1y; have hb30y := Below.after (by first | with_reducible exact Below.d0 W9x | with_reducible exact Below.d1 W9x _) hb3y; have KKay := HKy.out.later hb30y; have cAay := KKay.c1; have QQay := HQqy.out.below hb30y HQqy.out.lt; have c0ay := QQay.c0; have c1ay := QQay.c1; have c2ay := QQay.c2; (try (with_reducible have qay := QB.below (QB.new_drew W9x false (.slice none 0 0) (.slice none 0 0)) hb3y (QB.lt (QB.new_drew W9x false (.slice none 0 0) (.slice none 0 0))))); (try (have qAy : QB w3y W9x.heap.size false (.slice none 0 0) (.slice none 0 0) := qay)); (try clear qay); have HFMy := Lib.hid (fun (W : World) (b : Below w3y.heap.size w3y W) => fmul (FQ.up hf1y b) (FQ.up (FQ.up HFqy.out hb30y) b) (by decide)))
            | (go_at_call 52; refine Calls.mono (HFMy.out _ (by first | with_reducible exact Below.id _ | with_reducible exact Below.one _ _)) ?_; rintro e w4y ⟨s3y, A3y, l3y, p3y, B3y, m3y, d3y, N3y, D3y, he, hf3y, hP3y, hb4y⟩; subst he; have HP3y := Lib.hid hP3y; clear hP3y; have hb40y := Below.after (Below.after hb30y (by first | with_reducible exact Below.id _ | with_reducible exact Below.one _ _)) hb4y; have KKby := HKy.out.later hb40y; have cAby := KKby.c1; have QQby := HQqy.out.below hb40y HQqy.out.lt; have c0by := QQby.c0; have c1by := QQby.c1; have c2by := QQby.c2; (try (with_reducible have qBy := QB.below qAy hb4y (QB.lt qAy))); (try (with_reducible have qBy := QB.below (QB.new w3y false (.slice none 0 0) (.slice none 0 0)) hb4y (QB.lt (QB.new w3y false (.slice none 0 0) (.slice none 0 0))))); (try have r0y := QB.c0 qBy); (try have r1y := QB.c1 qBy); (try have r2y := QB.c2 qBy); (try have r3y := QB.fr qBy 0); (try have r4y := QB.fr qBy 1); (try have r5y := QB.fr qBy 2); have hsay : w.heap.size ≠ W9x.heap.size := Nat.ne_of_lt HKy.out.lt; have hsqy : w2.heap.size ≠ W9x.heap.size := Nat.ne_of_lt HQqy.out.lt; have hsby : w.heap.size ≠ w3y.heap.size := Nat.ne_of_lt KKay.lt; have hsry : w2.heap.size ≠ w3y.heap.size := Nat.ne_of_lt QQay.lt; have kpa0y := cell_other3 (k := W9x.heap.size) cAby hsay; have kpb0y := cell_other3 (k := w3y.heap.size) cAby hsby; have kpa1y := cell_other3 (k := W9x.heap.size) c0by hsqy; have kpb1y := cell_other3 (k := w3y.heap.size) c0by hsry; have kpa2y := cell_other3 (k := W9x.heap.size) c1by hsqy; have kpb2y := cell_other3 (k := w3y.heap.size) c1by hsry; have kpa3y := cell_other3 (k := W9x.heap.size) c2by hsqy; have kpb3y := cell_other3 (k := w3y.heap.size) c2by hsry; clear hsay hsqy hsby hsry))
        all_goals
          clear kpa0y kpb0y kpa1y kpb1y kpa2y kpb2y kpa3y kpb3y cAay cAby c0ay c0by c1ay c1by c2ay c2by KKay KKby QQay QQby
          first
            | (have hq9y := QB.write qBy s3y (.slice A3y l3y p3y) (.slice B3y m3y d3y)
               have hf9y := FQ.wrote hf3y qBy s3y (.slice A3y l3y p3y) (.slice B3y m3y d3y)
               have hb9y := wroteQ_below (g := W9x.heap.size) hb40y (Nat.le_refl _) s3y (.slice A3y l3y p3y) (.slice B3y m3y d3y)
               simp only [wroteQ] at hq9y hf9y hb9y
               clear qAy qBy r0y r1y r2y r3y r4y r5y
               generalize ((w4y.setCell ⟨W9x.heap.size, 0, none⟩ _).setCell ⟨W9x.heap.size, 1, none⟩ _).setCell ⟨W9x.heap.size, 2, none⟩ _ = W9y at *
               have HQ9y := Lib.hid (show QB W9y W9x.heap.size s3y (.slice A3y l3y p3y) (.slice B3y m3y d3y) from hq9y))
            | (have hq9y := QB.write qBy s3y (.slice A3y l3y p3y) (.slice B3y m3y d3y)
               have hf9y := FQ.wrote hf3y qBy s3y (.slice A3y l3y p3y) (.slice B3y m3y d3y)
               have hb9y := wroteQ_below (g := w3y.heap.size) hb40y hb30y.size s3y (.slice A3y l3y p3y) (.slice B3y m3y d3y)
               simp only [wroteQ] at hq9y hf9y hb9y
               clear qBy r0y r1y r2y r3y r4y r5y
               generalize ((w4y.setCell ⟨w3y.heap.size, 0, none⟩ _).setCell ⟨w3y.heap.size, 1, none⟩ _).setCell ⟨w3y.heap.size, 2, none⟩ _ = W9y at *
               have HQ9y := Lib.hid (show QB W9y w3y.heap.size s3y (.slice A3y l3y p3y) (.slice B3y m3y d3y) from hq9y))
            | (have hq9y := QB.new w4y s3y (.slice A3y l3y p3y) (.slice B3y m3y d3y)
               have hf9y := FQ.up hf3y (Below.one w4y (.cells #[.bool s3y, .slice A3y l3y p3y, .slice B3y m3y d3y] 61))
               have hb9y := Below.after hb40y (Below.one w4y (.cells #[.bool s3y, .slice A3y l3y p3y, .slice B3y m3y d3y] 61))
               generalize w4y.alloc _ = W9y at *
               have HQ9y := Lib.hid (show QB W9y w4y.heap.size s3y (.slice A3y l3y p3y) (.slice B3y m3y d3y) from hq9y))
          have HF9y := Lib.hid hf9y
          have HB9y := Lib.hid hb9y
          clear hq9y hf9y hb9y hf1y hf3y hb3y hb30y hb4y hb40y HFMy
          have hq3 := HQ9x.out.below HB9y.out HQ9x.out.lt
          have x0 := hq3.c0
          have x1 := hq3.c1
          have x2 := hq3.c2
          have y0 := HQ9y.out.c0
          have y1 := HQ9y.out.c1
          have y2 := HQ9y.out.c2
          have F9 := (HF2.out.later HB9x.out).later HB9y.out
          have hfx := FQ.up HF9x.out HB9y.out
          have hfy := HF9y.out
          have hrx : N3x * (dn : Int) = a1 * num * (D3x : Int) := by
            have h := pi_rel (M := dn) HFq0.out (by rw [← HDN.out]; exact HPq.out) HP3x.out
            rw [Nat.one_mul] at h
            exact h
          have hry : N3y * (dn : Int) = a2 * num * (D3y : Int) := by
            have h := pi_rel (M := dn) HFq0.out (by rw [← HDN.out]; exact HPq.out) HP3y.out
            rw [Nat.one_mul] at h
            exact h
          have HSA := Lib.hid ((span2 W9y 6 ⟨s3x, A3x, l3x, p3x, B3x, m3x, d3x, N3x, D3x⟩ ⟨s3y, A3y, l3y, p3y, B3y, m3y, d3y, N3y, D3y⟩ (by decide) hfx hfy).mono (fun e w' ⟨W, hW, h⟩ => HSP.out _ _ e W W9y w' hW hfx.ne hfy.ne hrx hry h))
          have HFT := Lib.hid F9
          clear hq3 F9 hfx hfy hrx hry c11 c00 c01 c02
          go_wp2_with fail
          refine HSA.out.mono ?_
          rintro e w11 ⟨he, hb11⟩
          subst he
          have F11 := HFT.out.later hb11
          obtain ⟨q1, q2, hr⟩ := F11.res
          have c30 := hr.c0
          have c31 := hr.c1
          have f30 := hr.f0
          have f31 := hr.f1
          have FB := Lib.hid F11
          clear hr F11 hb11 x0 x1 x2 y0 y1 y2
          go_wp2_with fail
          refine bodyPost_ret (v := .tuple #[.agg #[.int .i64 sx, .int .i64 sy], .int .i64 sc]) (by simp [results, Try.results22, c30, c31, go_sem]) rfl ⟨rfl, (FB.out.set _ _).bl⟩
    · have hR : ivE (scaleE a num den) = .tuple #[.agg #[.int .i64 0, .int .i64 0], .int .i64 2] := by unfold scaleE scaleW; rw [if_pos h0, if_neg hbad]; rfl
      rw [hR]
      have hc : den < 1 ∨ (1 ≤ den ∧ 4611686018427387904 < den) ∨ (1 ≤ den ∧ den ≤ 4611686018427387904 ∧ num < -4611686018427387904) ∨ (1 ≤ den ∧ den ≤ 4611686018427387904 ∧ -4611686018427387904 ≤ num ∧ 4611686018427387904 < num) := by
        have e1 := okB_iff (n := den)
        have e2 := okB_iff (n := num)
        by_cases c1 : 1 ≤ den
        · by_cases c2 : okB den = true
          · by_cases c3 : okB num = true
            · exact absurd ⟨c1, c2, c3⟩ hbad
            · have h3 : ¬ (-4611686018427387904 ≤ num ∧ num ≤ 4611686018427387904) := fun h => c3 (e2.2 h); have := e1.1 c2; omega
          · have h3 : ¬ (-4611686018427387904 ≤ den ∧ den ≤ 4611686018427387904) := fun h => c2 (e1.2 h); omega
        · omega
      clear hR h0 ho1 ho2 hle hbad
      obtain ⟨a1, a2⟩ := a
      unfold ivV at HCK ⊢
      simp only at HCK ⊢
      rcases hc with hc | ⟨hd1, hc⟩ | ⟨hd1, hd2, hc⟩ | ⟨hd1, hd2, hd3, hc⟩
      all_goals
        go_enter Try.func22, Try.ntmps22
        go_wp2_with fail
        refine (HCK.out _).mono ?_
        rintro e w1 ⟨he, hb⟩
        subst he
        have F1 := Fm.of2 hb
        have c10 := F1.k0.c0
        have c11 := F1.k0.c1
        clear hb
        obtain ⟨p, q, hr⟩ := F1.res
        have c30 := hr.c0
        have c31 := hr.c1
        have f30 := hr.f0
        have f31 := hr.f1
        clear hr
        have FB := Lib.hid F1
        clear F1
        go_wp2_with fail
        refine bodyPost_ret (v := .tuple #[.agg #[.int .i64 0, .int .i64 0], .int .i64 2]) (by simp [results, Try.results22, c30, c31, go_sem]) rfl ⟨rfl, (FB.out.set _ _).bl⟩
  · have hR : ivE (scaleE a num den) = .tuple #[.agg #[.int .i64 0, .int .i64 0], .int .i64 (examI [a])] := by unfold scaleE; rw [if_neg h0]; rfl
    rw [hR]
    clear hR
    unfold ivV at HCK ⊢
    generalize examI [a] = er at *
    have q1 : (er == 0) = false := by simp [h0]
    have q2 : (er != 0) = true := by simp [h0]
    clear h0
    go_enter Try.func22, Try.ntmps22
    go_wp2_with fail
    refine (HCK.out _).mono ?_
    rintro e w1 ⟨he, hb⟩
    subst he
    have F1 := Fm.of2 hb
    have c10 := F1.k0.c0
    have c11 := F1.k0.c1
    clear hb
    obtain ⟨p, q, hr⟩ := F1.res
    have c30 := hr.c0
    have c31 := hr.c1
    have f30 := hr.f0
    have f31 := hr.f1
    clear hr
    have FB := Lib.hid F1
    clear F1
    go_wp2_with fail
    refine bodyPost_ret (v := .tuple #[.agg #[.int .i64 0, .int .i64 0], .int .i64 er]) (by simp [results, Try.results22, c30, c31, go_sem]) rfl ⟨rfl, (FB.out.set _ _).bl⟩
end Go.Proofs.Ytmmgbofhbnflkaa
