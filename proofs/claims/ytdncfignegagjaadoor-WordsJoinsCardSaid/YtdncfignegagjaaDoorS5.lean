import Derived.Test.YtdncfignegagjaaDoorS4
namespace Go.Proofs.YtdncfignegagjaaDoor
open Go.RowKit

theorem set2 {w w' : World} {g : Nat} {a b x y : Value} (h0 : w.cell? ⟨g, 0, none⟩ = some a) (h1 : w.cell? ⟨g, 1, none⟩ = some b)
    (hb : Below ((w.setCell ⟨g, 0, none⟩ x).setCell ⟨g, 1, none⟩ y).heap.size ((w.setCell ⟨g, 0, none⟩ x).setCell ⟨g, 1, none⟩ y) w') : w'.cell? ⟨g, 0, none⟩ = some x ∧ w'.cell? ⟨g, 1, none⟩ = some y := by
  have c0 : ((w.setCell ⟨g, 0, none⟩ x).setCell ⟨g, 1, none⟩ y).cell? ⟨g, 0, none⟩ = some x := by
    rw [World.cell?_setCell_other _ _ _ _ (by simp)]
    exact World.cell?_setCell_same _ _ _ h0
  have c1 : ((w.setCell ⟨g, 0, none⟩ x).setCell ⟨g, 1, none⟩ y).cell? ⟨g, 1, none⟩ = some y :=
    World.cell?_setCell_same _ _ _ (by rw [World.cell?_setCell_other _ _ _ _ (by simp)]; exact h1)
  exact ⟨cell_later hb c0, cell_later hb c1⟩

set_option maxRecDepth 100000 in
set_option maxHeartbeats 8000000 in
theorem rsplit_any (s : ByteArray) (w : World) (hs : s.size ≤ 1000000) :
    Calls Tryd.prog 35 #[.string s] w (RFldsPost w (splitW s.data.toList)) := by
  obtain ⟨i0, hi0, hz0, hz1, hz2⟩ := info_parts Tryd.infoR
  by_cases hbig : 4096 < s.size
  · have hf := Lib.hid (show splitW s.data.toList = ([], 3) by rw [splitW_parse, if_pos (by rw [len_eq]; exact hbig)])
    go_enter Tryd.func35, Tryd.ntmps35
    go_wp2_with fail
    go_ret2
    exact rfPost_err hf.out (Below.refl _ _)
  have q1 : decide (4096 < s.size) = false := by simp; omega
  go_enter Tryd.func35, Tryd.ntmps35
  go_wp2_with fail
  go_loopw [4, 5] (fun ov iv wr => RsRel s w ov iv wr) (fun _ iv _ => s.size + 1 - (intOf iv).toNat)
  case atStart =>
    refine ⟨0, [], rfl, Nat.le_refl _, Nat.zero_le _, ?_, World.ownsRow_nil _ _ _ _, Below.refl _ _⟩
    by_cases h0 : s.size = 0
    · right; right; exact ⟨by rw [← toL]; exact empty_yes s h0, rfl, rfl⟩
    · left; exact ⟨by omega, by simp⟩
  case round =>
    obtain ⟨k, pre, rfl, hpk, hks, hcase, hown, hb⟩ := hrel
    have HCA := Lib.hid hcase
    clear hcase
    have hbs := hb.size
    by_cases hlt : k < s.size
    · have hp : parseO s.data.toList = (parseO (s.data.toList.drop k)).map (pre ++ ·) := by
        rcases HCA.out with h | h | h
        · exact h.2
        · omega
        · have := congrArg List.length h.1; rw [len_eq] at this; have h0 : s.size = 0 := this; omega
      have HP := Lib.hid hp
      obtain ⟨e, he⟩ : ∃ e, e = endW (s.data.toList.drop k) := ⟨_, rfl⟩
      obtain ⟨te, hto⟩ : ∃ te, te = k + e := ⟨_, rfl⟩
      have hel : te ≤ s.size := by
        have := endW_le (s.data.toList.drop k)
        rw [← he, List.length_drop, len_eq] at this; omega
      have hkt : k ≤ te := by omega
      have hend := fun W => rend_any s k W hs hlt
      rw [← he, ← hto] at hend
      have HE := Lib.hid he
      have HEND := Lib.hid hend
      obtain ⟨X, hX⟩ : ∃ X : ByteArray, X = s.extract k te := ⟨_, rfl⟩
      have hXl : X.data.toList = (s.data.toList.drop k).take e := by rw [hX, Lib.extract_data, hto]; congr 1; omega
      have hXs : X.size ≤ 1000000 := by rw [← len_eq, hXl, List.length_take, List.length_drop, len_eq]; omega
      have hXm : X.size ≤ maxLen := by unfold maxLen; omega
      have HXL := Lib.hid hXl
      have HX := Lib.hid hX
      have hbad : ¬ OkAt (s.data.toList.drop k) e → splitW s.data.toList = ([], 6) := fun h => rs_bad hbig hlt HP.out (by rw [← HE.out]; exact h)
      have HBAD := Lib.hid hbad
      have hhead : (s.data.toList.drop k).head? = some s[k] := by rw [drop_at s k hlt]; rfl
      have hht : X.data.toList ≠ [] → X.data.toList.head? = some s[k] := by
        intro h
        rw [hXl] at h ⊢
        rw [head_take h, hhead]
      have HHT := Lib.hid hht
      have hmore : ∀ f : Fld, FieldS X.data.toList → (readW X.data.toList).1 = f → te = s.size → parseO s.data.toList = some (pre ++ [f]) := fun f h1 h2 h3 =>
        rs_end hlt HP.out HE.out (by rw [← HXL.out]; exact h1) (by rw [← HXL.out]; exact h2) (by rw [← hto]; exact h3)
      have hnext : ∀ f : Fld, FieldS X.data.toList → (readW X.data.toList).1 = f → ∀ h3 : te < s.size, s[te] = 32 → parseO s.data.toList = (parseO (s.data.toList.drop (te + 1))).map ((pre ++ [f]) ++ ·) := by
        intro f h1 h2 h3 h4
        subst hto
        exact rs_more HP.out (by rw [← HXL.out]; exact h1) (by rw [← HXL.out]; exact h2) h3 h4
      have hbad2 : ∀ h3 : te < s.size, s[te] ≠ 32 → splitW s.data.toList = ([], 6) := by
        intro h3 h4
        subst hto
        apply HBAD.out
        rintro ⟨_, h | ⟨h, _⟩⟩
        · rw [List.length_drop, len_eq] at h; omega
        · rw [List.getElem?_drop, List.getElem?_eq_getElem (by rw [len_eq]; exact h3)] at h
          exact h4 (Option.some.inj h)
      have hbad3 : te + 1 = s.size → splitW s.data.toList = ([], 6) := by
        intro h4
        apply HBAD.out
        rintro ⟨_, h | ⟨_, h⟩⟩
        · rw [List.length_drop, len_eq] at h; omega
        · rw [List.length_drop, len_eq] at h; omega
      have HM := Lib.hid hmore
      have HN := Lib.hid hnext
      have HB2 := Lib.hid hbad2
      have HB3 := Lib.hid hbad3
      have hnn : s.data.toList ≠ [] := by intro e; have := congrArg List.length e; rw [len_eq] at this; have h0 : s.size = 0 := this; omega
      have HNN := Lib.hid hnn
      have hW1 : Below wr.heap.size wr (wr.alloc (.cells #[.bool false, .string X] 61)) := (Below.refl _ _).alloc (Nat.le_refl _) _
      rw [hX] at hW1
      have HW1 := Lib.hid hW1
      clear hp he hend hX hXl hbad hhead hht hmore hnext hbad2 hbad3 hnn hto hW1
      by_cases h34 : (s[k].toNat : Int) = 34
      · have p1 : ((s[k].toNat : Int) == 34) = true := by simp [h34]
        have hun := fun W => runquote_any X W hXs
        rw [HX.out] at hun
        rcases unq_cases' X.data.toList with ⟨t, ht, hq, hu⟩ | hu
        · rw [← HX.out, hu] at hun
          obtain ⟨T, hT⟩ : ∃ T : ByteArray, T = ⟨t.toArray⟩ := ⟨_, rfl⟩
          obtain rfl : t = T.data.toList := by rw [hT]
          have hTm : T.size ≤ maxLen := by have := textB_len ht; rw [len_eq] at this; unfold maxLen; omega
          have hun' : ∀ W, Calls Tryd.prog 33 #[.string (s.extract k te)] W fun e w' => e = .returned (.tuple #[.string T, .int .i64 0]) ∧ Below W.heap.size W w' := by
            intro W; have := hun W; rw [HX.out] at this; exact this
          have hFS : FieldS X.data.toList := .inr ⟨_, ht, hq.symm⟩
          have hrd : (readW X.data.toList).1 = (true, T.data.toList) := by rw [← hq, readW_quoted ht]
          have hrr := fun W => rright_any true T W hTm
          rw [show rightB (true, T.data.toList) = true from ht] at hrr
          have HUN := Lib.hid hun'
          have HRR := Lib.hid hrr
          have HFS := Lib.hid hFS
          have HRD := Lib.hid hrd
          clear hun hun' hFS hrd hrr hu hq ht hT h34
          by_cases hA : te = s.size
          · have t1 : te = s.size := hA
            have HA := Lib.hid t1
            have tok : ¬ (te : Int) < (s.size : Int) := by omega
            clear hA t1
            go_wp2_with fail
            refine (HEND.out _).mono ?_
            rintro e1 w1 ⟨rfl, rfl⟩
            go_wp2_with fail
            refine (HUN.out _).mono ?_
            rintro e2 w2 ⟨rfl, hb2⟩
            obtain ⟨c0, c1, f0, f1, hlt2⟩ := new2 hb2
            have hb2' := HW1.out.trans (hb2.mono HW1.out.size)
            go_wp2_with fail
            refine (HRR.out _).mono ?_
            rintro e3 w3 ⟨rfl, hb3⟩
            obtain ⟨d0, d1⟩ := set2 c0 c1 hb3
            have hb3' : Below wr.heap.size wr w3 := ((hb2'.setCell (p := ⟨wr.heap.size, 0, none⟩) (Nat.le_refl _) _).setCell (p := ⟨wr.heap.size, 1, none⟩) (Nat.le_refl _) _).trans (hb3.mono (by simp [World.setCell]; omega))
            have hown3 := (hown.kept (grownBy_of_below hb3') (by cases u4.ownBlock <;> simp)).alloc (.cells #[.bool true, .string T] 61)
            have hsz := hb3'.size
            clear hb2 hb2' c0 c1 f0 f1 hb3
            go_wp2_with (at_builtin; refine wpList_append_own _ rfl _ _ 46 rfl w.heap.size 61 i0 (.agg #[.bool false, .string ⟨#[]⟩]) 2 24 Tryd.underlying46 hi0 hz0 hz1 hz2 rfl (by decide) _ _ _ rfl hown3 ⟨w3.heap.size, 0, none⟩ 1 1 [.bool true, .string T] rfl rfl (cell_two_new _ _ _ _) (by simp [Value.oneCell']) (by unfold maxLen; omega) (by omega) (by simp; omega) ?_; intro v' w4 hown4 hgrow _)
            have hb4 : Below w.heap.size w w4 := ((hb.trans (hb3'.mono hbs)).alloc (by omega) _).grown hgrow (by simp; omega) (own_ge hown3)
            go_roundw
            case rel =>
              refine ⟨te + 1, pre ++ [(true, T.data.toList)], by go_num, by simp; omega, by omega, ?_, ?_, hb4⟩
              · right; left; exact ⟨by rw [HA.out], HM.out _ HFS.out HRD.out HA.out, HNN.out⟩
              · rw [List.length_append, flat_snoc]; exact hown4
            case measure => simp [intOf]; omega
          · have hlt3 : te < s.size := by omega
            clear hA
            by_cases h32 : (s[te].toNat : Int) = 32
            rotate_left
            · have b1 : ((s[te].toNat : Int) == 32) = false := by simp [h32]
              have b2 : ((s[te].toNat : Int) != 32) = true := by simp [h32]
              have hf := Lib.hid (HB2.out hlt3 (u8_n32 h32))
              clear h32
              go_wp2_with fail
              refine (HEND.out _).mono ?_
              rintro e1 w1 ⟨rfl, rfl⟩
              go_wp2_with fail
              refine (HUN.out _).mono ?_
              rintro e2 w2 ⟨rfl, hb2⟩
              obtain ⟨c0, c1, f0, f1, hlt2⟩ := new2 hb2
              have hb2' := HW1.out.trans (hb2.mono HW1.out.size)
              go_wp2_with fail
              refine (HRR.out _).mono ?_
              rintro e3 w3 ⟨rfl, hb3⟩
              obtain ⟨d0, d1⟩ := set2 c0 c1 hb3
              have hb3' : Below wr.heap.size wr w3 := ((hb2'.setCell (p := ⟨wr.heap.size, 0, none⟩) (Nat.le_refl _) _).setCell (p := ⟨wr.heap.size, 1, none⟩) (Nat.le_refl _) _).trans (hb3.mono (by simp [World.setCell]; omega))
              have hbz := hb.trans (hb3'.mono hbs)
              clear hb2 hb2' c0 c1 f0 f1 hb3
              go_wp2_with fail
              go_ret2
              exact rfPost_err hf.out hbz
            have b1 : ((s[te].toNat : Int) == 32) = true := by simp [h32]
            have b2 : ((s[te].toNat : Int) != 32) = false := by simp [h32]
            have H32 := Lib.hid h32
            clear h32
            by_cases h1 : te + 1 = s.size
            · have hf := Lib.hid (HB3.out h1)
              have b3 : ((te : Int) + 1 == (s.size : Int)) = true := beq_iff_eq.2 (by omega)
              clear h1
              go_wp2_with fail
              refine (HEND.out _).mono ?_
              rintro e1 w1 ⟨rfl, rfl⟩
              go_wp2_with fail
              refine (HUN.out _).mono ?_
              rintro e2 w2 ⟨rfl, hb2⟩
              obtain ⟨c0, c1, f0, f1, hlt2⟩ := new2 hb2
              have hb2' := HW1.out.trans (hb2.mono HW1.out.size)
              go_wp2_with fail
              refine (HRR.out _).mono ?_
              rintro e3 w3 ⟨rfl, hb3⟩
              obtain ⟨d0, d1⟩ := set2 c0 c1 hb3
              have hb3' : Below wr.heap.size wr w3 := ((hb2'.setCell (p := ⟨wr.heap.size, 0, none⟩) (Nat.le_refl _) _).setCell (p := ⟨wr.heap.size, 1, none⟩) (Nat.le_refl _) _).trans (hb3.mono (by simp [World.setCell]; omega))
              have hbz := hb.trans (hb3'.mono hbs)
              clear hb2 hb2' c0 c1 f0 f1 hb3
              go_wp2_with fail
              go_ret2
              exact rfPost_err hf.out hbz
            · have b3 : ((te : Int) + 1 == (s.size : Int)) = false := beq_false_of_ne (by omega)
              have hl2 : te + 1 < s.size := by omega
              have HNX := Lib.hid (HN.out _ HFS.out HRD.out hlt3 (u8_32 H32.out))
              go_wp2_with fail
              refine (HEND.out _).mono ?_
              rintro e1 w1 ⟨rfl, rfl⟩
              go_wp2_with fail
              refine (HUN.out _).mono ?_
              rintro e2 w2 ⟨rfl, hb2⟩
              obtain ⟨c0, c1, f0, f1, hlt2⟩ := new2 hb2
              have hb2' := HW1.out.trans (hb2.mono HW1.out.size)
              go_wp2_with fail
              refine (HRR.out _).mono ?_
              rintro e3 w3 ⟨rfl, hb3⟩
              obtain ⟨d0, d1⟩ := set2 c0 c1 hb3
              have hb3' : Below wr.heap.size wr w3 := ((hb2'.setCell (p := ⟨wr.heap.size, 0, none⟩) (Nat.le_refl _) _).setCell (p := ⟨wr.heap.size, 1, none⟩) (Nat.le_refl _) _).trans (hb3.mono (by simp [World.setCell]; omega))
              have hown3 := (hown.kept (grownBy_of_below hb3') (by cases u4.ownBlock <;> simp)).alloc (.cells #[.bool true, .string T] 61)
              have hsz := hb3'.size
              clear hb2 hb2' c0 c1 f0 f1 hb3
              go_wp2_with (at_builtin; refine wpList_append_own _ rfl _ _ 46 rfl w.heap.size 61 i0 (.agg #[.bool false, .string ⟨#[]⟩]) 2 24 Tryd.underlying46 hi0 hz0 hz1 hz2 rfl (by decide) _ _ _ rfl hown3 ⟨w3.heap.size, 0, none⟩ 1 1 [.bool true, .string T] rfl rfl (cell_two_new _ _ _ _) (by simp [Value.oneCell']) (by unfold maxLen; omega) (by omega) (by simp; omega) ?_; intro v' w4 hown4 hgrow _)
              have hb4 : Below w.heap.size w w4 := ((hb.trans (hb3'.mono hbs)).alloc (by omega) _).grown hgrow (by simp; omega) (own_ge hown3)
              go_roundw
              case rel =>
                refine ⟨te + 1, pre ++ [(true, T.data.toList)], by go_num, by simp; omega, by omega, ?_, ?_, hb4⟩
                · left; exact ⟨by omega, HNX.out⟩
                · rw [List.length_append, flat_snoc]; exact hown4
              case measure => simp [intOf]; omega
        · have hbadx : splitW s.data.toList = ([], 6) := by
            apply HBAD.out
            rintro ⟨h1, _⟩
            rw [← HXL.out] at h1
            obtain ⟨sx, h2, h3⟩ := (field_head h1 (HHT.out (field_ne h1))).1 (u8_34 h34)
            rw [h3, unq_quoted h2] at hu
            simp at hu
          rw [← HX.out, hu] at hun
          have hun' : ∀ W, Calls Tryd.prog 33 #[.string (s.extract k te)] W fun e w' => e = .returned (.tuple #[.string ⟨#[]⟩, .int .i64 6]) ∧ Below W.heap.size W w' := by
            intro W; have := hun W; rw [HX.out] at this; exact this
          have HUN := Lib.hid hun'
          have HBX := Lib.hid hbadx
          clear hun hun' hbadx hu h34
          go_wp2_with fail
          refine (HEND.out _).mono ?_
          rintro e1 w1 ⟨rfl, rfl⟩
          go_wp2_with fail
          refine (HUN.out _).mono ?_
          rintro e2 w2 ⟨rfl, hb2⟩
          obtain ⟨c0, c1, f0, f1, hlt2⟩ := new2 hb2
          have hb2' := hb.trans ((HW1.out.trans (hb2.mono HW1.out.size)).mono hbs)
          go_wp2_with fail
          go_ret2
          exact rfPost_err HBX.out hb2'
      · have p1 : ((s[k].toNat : Int) == 34) = false := by simp [h34]
        cases hr : bareB X.data.toList
        · have hbadx : splitW s.data.toList = ([], 6) := by
            apply HBAD.out
            rintro ⟨h1, _⟩
            rw [← HXL.out] at h1
            have := (field_head h1 (HHT.out (field_ne h1))).2 (u8_n34 h34)
            rw [hr] at this; cases this
          have hrr := fun W => rright_any false X W hXm
          rw [show rightB (false, X.data.toList) = false from hr, HX.out] at hrr
          have HRR := Lib.hid hrr
          have HBX := Lib.hid hbadx
          clear hrr hbadx hr h34
          go_wp2_with fail
          refine (HEND.out _).mono ?_
          rintro e1 w1 ⟨rfl, rfl⟩
          go_wp2_with fail
          refine (HRR.out _).mono ?_
          rintro e2 w2 ⟨rfl, hb2⟩
          have hb2' := hb.trans ((HW1.out.trans (hb2.mono HW1.out.size)).mono hbs)
          go_wp2_with fail
          go_ret2
          exact rfPost_err HBX.out hb2'
        · have hFS : FieldS X.data.toList := .inl hr
          have hrd : (readW X.data.toList).1 = (false, X.data.toList) := by rw [readW_bare hr]
          have hrr := fun W => rright_any false X W hXm
          rw [show rightB (false, X.data.toList) = true from hr, HX.out] at hrr
          have HRR := Lib.hid hrr
          have HFS := Lib.hid hFS
          have HRD := Lib.hid hrd
          clear hFS hrd hrr hr h34
          by_cases hA : te = s.size
          · have t1 : te = s.size := hA
            have HA := Lib.hid t1
            have tok : ¬ (te : Int) < (s.size : Int) := by omega
            clear hA t1
            go_wp2_with fail
            refine (HEND.out _).mono ?_
            rintro e1 w1 ⟨rfl, rfl⟩
            go_wp2_with fail
            refine (HRR.out _).mono ?_
            rintro e3 w3 ⟨rfl, hb3⟩
            obtain ⟨d0, d1, f0, f1, hlt2⟩ := new2 hb3
            have hb3' := HW1.out.trans (hb3.mono HW1.out.size)
            have hown3 := (hown.kept (grownBy_of_below hb3') (by cases u4.ownBlock <;> simp)).alloc (.cells #[.bool false, .string (s.extract k te)] 61)
            have hsz := hb3'.size
            clear hb3 f0 f1
            go_wp2_with (at_builtin; refine wpList_append_own _ rfl _ _ 46 rfl w.heap.size 61 i0 (.agg #[.bool false, .string ⟨#[]⟩]) 2 24 Tryd.underlying46 hi0 hz0 hz1 hz2 rfl (by decide) _ _ _ rfl hown3 ⟨w3.heap.size, 0, none⟩ 1 1 [.bool false, .string (s.extract k te)] rfl rfl (cell_two_new _ _ _ _) (by simp [Value.oneCell']) (by unfold maxLen; omega) (by omega) (by simp; omega) ?_; intro v' w4 hown4 hgrow _)
            have hb4 : Below w.heap.size w w4 := ((hb.trans (hb3'.mono hbs)).alloc (by omega) _).grown hgrow (by simp; omega) (own_ge hown3)
            go_roundw
            case rel =>
              refine ⟨te + 1, pre ++ [(false, X.data.toList)], by go_num, by simp; omega, by omega, ?_, ?_, hb4⟩
              · right; left; exact ⟨by rw [HA.out], HM.out _ HFS.out HRD.out HA.out, HNN.out⟩
              · rw [List.length_append, flat_snoc, HX.out]; exact hown4
            case measure => simp [intOf]; omega
          · have hlt3 : te < s.size := by omega
            clear hA
            by_cases h32 : (s[te].toNat : Int) = 32
            rotate_left
            · have b1 : ((s[te].toNat : Int) == 32) = false := by simp [h32]
              have b2 : ((s[te].toNat : Int) != 32) = true := by simp [h32]
              have hf := Lib.hid (HB2.out hlt3 (u8_n32 h32))
              clear h32
              go_wp2_with fail
              refine (HEND.out _).mono ?_
              rintro e1 w1 ⟨rfl, rfl⟩
              go_wp2_with fail
              refine (HRR.out _).mono ?_
              rintro e3 w3 ⟨rfl, hb3⟩
              obtain ⟨d0, d1, f0, f1, hlt2⟩ := new2 hb3
              have hb3' := HW1.out.trans (hb3.mono HW1.out.size)
              have hbz := hb.trans (hb3'.mono hbs)
              clear hb3 f0 f1
              go_wp2_with fail
              go_ret2
              exact rfPost_err hf.out hbz
            have b1 : ((s[te].toNat : Int) == 32) = true := by simp [h32]
            have b2 : ((s[te].toNat : Int) != 32) = false := by simp [h32]
            have H32 := Lib.hid h32
            clear h32
            by_cases h1 : te + 1 = s.size
            · have hf := Lib.hid (HB3.out h1)
              have b3 : ((te : Int) + 1 == (s.size : Int)) = true := beq_iff_eq.2 (by omega)
              clear h1
              go_wp2_with fail
              refine (HEND.out _).mono ?_
              rintro e1 w1 ⟨rfl, rfl⟩
              go_wp2_with fail
              refine (HRR.out _).mono ?_
              rintro e3 w3 ⟨rfl, hb3⟩
              obtain ⟨d0, d1, f0, f1, hlt2⟩ := new2 hb3
              have hb3' := HW1.out.trans (hb3.mono HW1.out.size)
              have hbz := hb.trans (hb3'.mono hbs)
              clear hb3 f0 f1
              go_wp2_with fail
              go_ret2
              exact rfPost_err hf.out hbz
            · have b3 : ((te : Int) + 1 == (s.size : Int)) = false := beq_false_of_ne (by omega)
              have hl2 : te + 1 < s.size := by omega
              have HNX := Lib.hid (HN.out _ HFS.out HRD.out hlt3 (u8_32 H32.out))
              go_wp2_with fail
              refine (HEND.out _).mono ?_
              rintro e1 w1 ⟨rfl, rfl⟩
              go_wp2_with fail
              refine (HRR.out _).mono ?_
              rintro e3 w3 ⟨rfl, hb3⟩
              obtain ⟨d0, d1, f0, f1, hlt2⟩ := new2 hb3
              have hb3' := HW1.out.trans (hb3.mono HW1.out.size)
              have hown3 := (hown.kept (grownBy_of_below hb3') (by cases u4.ownBlock <;> simp)).alloc (.cells #[.bool false, .string (s.extract k te)] 61)
              have hsz := hb3'.size
              clear hb3 f0 f1
              go_wp2_with (at_builtin; refine wpList_append_own _ rfl _ _ 46 rfl w.heap.size 61 i0 (.agg #[.bool false, .string ⟨#[]⟩]) 2 24 Tryd.underlying46 hi0 hz0 hz1 hz2 rfl (by decide) _ _ _ rfl hown3 ⟨w3.heap.size, 0, none⟩ 1 1 [.bool false, .string (s.extract k te)] rfl rfl (cell_two_new _ _ _ _) (by simp [Value.oneCell']) (by unfold maxLen; omega) (by omega) (by simp; omega) ?_; intro v' w4 hown4 hgrow _)
              have hb4 : Below w.heap.size w w4 := ((hb.trans (hb3'.mono hbs)).alloc (by omega) _).grown hgrow (by simp; omega) (own_ge hown3)
              go_roundw
              case rel =>
                refine ⟨te + 1, pre ++ [(false, X.data.toList)], by go_num, by simp; omega, by omega, ?_, ?_, hb4⟩
                · left; exact ⟨by omega, HNX.out⟩
                · rw [List.length_append, flat_snoc, HX.out]; exact hown4
              case measure => simp [intOf]; omega
    · have hnp : splitW s.data.toList = if 64 < pre.length then ([], 3) else (pre, 0) := by
        rcases HCA.out with h | h | h
        · omega
        · exact rs_done hbig h.2.1 h.2.2
        · rw [h.1, h.2.2]; rfl
      have HNP := Lib.hid hnp
      have hform : ∃ A cap, u4 = .slice A pre.length cap := by
        rcases hown.2 with ⟨rfl, h0⟩ | ⟨g, cap, cur, rfl, _⟩
        · exact ⟨none, 0, by rw [h0]⟩
        · exact ⟨_, cap, rfl⟩
      obtain ⟨A, cap, rfl⟩ := hform
      clear hnp
      by_cases h64 : 64 < pre.length
      · have hf := Lib.hid (show splitW s.data.toList = ([], 3) by rw [HNP.out, if_pos h64])
        go_wp2_with fail
        go_ret2
        exact rfPost_err hf.out hb
      · have hf := Lib.hid (show splitW s.data.toList = (pre, 0) by rw [HNP.out, if_neg h64])
        go_wp2_with fail
        go_ret2
        rw [hf.out]
        exact ⟨_, rfl, hown, hb⟩
end Go.Proofs.YtdncfignegagjaaDoor
