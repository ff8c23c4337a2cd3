import Derived.Test.YtkoghdgfllichaaDoorPB6
import Derived.Test.YtkoghdgfllichaaDoorTAF
import Derived.Test.YtkoghdgfllichaaDoorPB8
import Derived.Test.YtkoghdgfllichaaDoorPBC
import Derived.Deep.DeepCutAuto
namespace Go.Proofs.YtkoghdgfllichaaDoor.Pc
open Go.RowKit Tp

/-! The law's usual, named and awake. -/
set_option maxRecDepth 100000 in
set_option maxHeartbeats 1000000 in
theorem usual_any (t : Int) (w : World) : Calls Tryd.prog 57 #[.int .i64 t] w fun e w' => e = .returned (.agg #[.int .i64 440000, .int .i64 15000, .int .i64 t]) ∧ Below w.heap.size w w' := by
  have hb := belB w (.cells #[.int .i64 0, .int .i64 0, .int .i64 0] 50)
  have hr := RowV.of_alloc w 50 [.int .i64 0, .int .i64 0, .int .i64 0]
  have c0 : (w.alloc (.cells #[.int .i64 0, .int .i64 0, .int .i64 0] 50)).cell? ⟨w.heap.size, 0, none⟩ = some (.int .i64 0) := hr.cell (i := 0) rfl
  have c1 : (w.alloc (.cells #[.int .i64 0, .int .i64 0, .int .i64 0] 50)).cell? ⟨w.heap.size, 1, none⟩ = some (.int .i64 0) := hr.cell (i := 1) rfl
  have c2 : (w.alloc (.cells #[.int .i64 0, .int .i64 0, .int .i64 0] 50)).cell? ⟨w.heap.size, 2, none⟩ = some (.int .i64 0) := hr.cell (i := 2) rfl
  have HB := Lib.hid hb
  have HR := Lib.hid hr
  clear hb hr
  go_enter Tryd.func57, Tryd.ntmps57
  go_wp2
  exact bodyPost_ret (v := .agg [.int .i64 440000, .int .i64 15000, .int .i64 t].toArray) (results_cell rfl rfl (run_loadVar_mid _ _ 0 _ [.int .i64 440000, .int .i64 15000, .int .i64 t] _ (RowV.of_alloc w 50 [.int .i64 440000, .int .i64 15000, .int .i64 t]).all Tryd.underlying50 rfl (szStd 440000 15000 t))) rfl ⟨rfl, belB w _⟩
set_option maxRecDepth 100000 in
set_option maxHeartbeats 1000000 in
theorem named0_any (w : World) : Calls Tryd.prog 58 #[.string ⟨#[101, 113, 117, 97, 108]⟩] w fun e w' => e = .returned (.agg (tmV std0).toArray) ∧ Below w.heap.size w w' := by
  have hz := zero26
  have HR0 := Lib.hid (RowV.of_alloc w 38 (tmV tm0))
  have HB0 := Lib.hid (belB w (.cells (tmV tm0).toArray 38))
  have HST := Lib.hid (fun W => rStandard0 W)
  have HSZ := Lib.hid (szT (T := std0) rfl)
  have hl2 : (tmV std0).length = 27 := rfl
  have hl0 : (tmV tm0).length = 27 := rfl
  have HO := Lib.hid (oneT std0)
  generalize tmV std0 = L at *
  generalize tmV tm0 = Z at *
  have HL2 := Lib.hid hl2
  have HL0 := Lib.hid hl0
  clear hl2 hl0
  go_enter Tryd.func58, Tryd.ntmps58
  go_wp2_with fail
  refine (HST.out _).mono ?_
  rintro e w1 ⟨he, hb1⟩
  subst he
  have hr0 := HR0.out.up hb1
  have hb := HB0.out.trans (hb1.mono HB0.out.size)
  have hg := hr0.lt
  obtain ⟨W, hW⟩ : ∃ W, W = (w1.alloc (.cells Z.toArray 38)).setCells w1.heap.size 0 L.toArray.toList := ⟨_, rfl⟩
  have hth1 : (w1.alloc (.cells Z.toArray 38)).there w1.heap.size 0 L.toArray.size := (RowV.of_alloc w1 38 Z).there (by rw [List.size_toArray, HL2.out, HL0.out]; exact Nat.le_refl _)
  have hrow : RowV W w1.heap.size 38 L := by
    rw [hW]
    have h := (RowV.of_alloc w1 38 Z).setCells L 0 _ _ (by rw [HL2.out, HL0.out]; exact Nat.le_refl _)
    have e : Z.take 0 ++ L ++ Z.drop (0 + L.length) = L := by rw [List.drop_eq_nil_of_le (by rw [HL2.out, HL0.out]; exact Nat.le_refl _)]; simp
    rw [e] at h
    exact h
  have hrow0 : RowV W w.heap.size 38 Z := by rw [hW]; exact RowV.otherCells (Nat.ne_of_lt hg) _ _ _ (hr0.alloc _)
  have hbW : Below w.heap.size w W := by rw [hW]; exact below_setCells _ _ _ (hb.alloc hb.size _) hb.size
  have hth2 : W.there w.heap.size 0 L.toArray.size := hrow0.there (by rw [List.size_toArray, HL2.out, HL0.out]; exact Nat.le_refl _)
  have hr4 : RowV (W.setCells w.heap.size 0 L) w.heap.size 38 L := by
    have h := hrow0.setCells L 0 _ _ (by rw [HL2.out, HL0.out]; exact Nat.le_refl _)
    have e : Z.take 0 ++ L ++ Z.drop (0 + L.length) = L := by rw [List.drop_eq_nil_of_le (by rw [HL2.out, HL0.out]; exact Nat.le_refl _)]; simp
    rw [e] at h
    exact h
  have TH1 := Lib.hid hth1
  have TH2 := Lib.hid hth2
  have HRW := Lib.hid hrow.all
  have HBW := Lib.hid hbW
  have HR4 := Lib.hid hr4
  have HW := Lib.hid hW
  clear hth1 hth2 hrow hrow0 hbW hr4 hW hr0 hb hb1 HR0 HB0 HST
  go_wp2_with (first | ((show wpList _ _ _ (⟨_, .store _ (.tmp 3) _, _, _, _, _⟩ :: _) _ _); refine wpList_store_mid rfl 38 _ _ rfl w1.heap.size 0 L.toArray rfl rfl TH1.out HSZ.out HO.out ?_; rw [← HW.out]) | ((show wpList _ _ _ (⟨_, .load _ _, _, _, _, _⟩ :: _) _ _); refine wpList_load_mid rfl 38 _ rfl w1.heap.size 0 rfl L _ HRW.out Tryd.underlying38 rfl HSZ.out ?_) | ((show wpList _ _ _ (⟨_, .store _ (.tmp 2) _, _, _, _, _⟩ :: _) _ _); refine wpList_store_mid rfl 38 _ _ rfl w.heap.size 0 L.toArray rfl rfl TH2.out HSZ.out HO.out ?_))
  exact bodyPost_ret (v := .agg L.toArray) (results_cell rfl rfl (run_loadVar_mid _ _ 0 _ L _ HR4.out.all Tryd.underlying38 rfl HSZ.out)) rfl ⟨rfl, below_setCells _ _ _ HBW.out (Nat.le_refl _)⟩
set_option maxRecDepth 100000 in
set_option maxHeartbeats 2000000 in
theorem awake6_any (w : World) (hp : PrL w) : Calls Tryd.prog 24 #[] w fun e w' => e = .returned (.bool true) ∧ Below w.heap.size w w' := by
  have HP := Lib.hid hp
  have HUS := Lib.hid (fun t W => usual_any t W)
  have HNA := Lib.hid (fun W => named0_any W)
  have hnm : std0.nm.size ≤ maxLen := by unfold maxLen; decide
  have hf1 : ∀ W, PrL W → Calls Tryd.prog 25 #[.agg #[.int .i64 440000, .int .i64 15000, .int .i64 15000], .agg (tmV std0).toArray, .int .i64 60] W fun e w' => e = .returned (.tuple #[.agg #[.int .i64 261625, .int .i64 261626], .int .i64 0]) ∧ Below W.heap.size W w' := fun W h => by
    refine (Freq_ok 440000 15000 15000 std0 12 11 60 W h (by decide +kernel) rfl hnm std0_chk std0_vd (by omega)).mono ?_
    rintro e w' ⟨N, hN, m, k, hm, he, hb⟩
    obtain ⟨rfl, rfl⟩ := freq60 hN hm
    exact ⟨he, hb⟩
  have hf2 : ∀ W, PrL W → Calls Tryd.prog 25 #[.agg #[.int .i64 440000, .int .i64 15000, .int .i64 20000], .agg (tmV std0).toArray, .int .i64 69] W fun e w' => e = .returned (.tuple #[.agg #[.int .i64 443801, .int .i64 443802], .int .i64 0]) ∧ Below W.heap.size W w' := fun W h => by
    refine (Freq_ok 440000 15000 20000 std0 12 11 69 W h (by decide +kernel) rfl hnm std0_chk std0_vd (by omega)).mono ?_
    rintro e w' ⟨N, hN, m, k, hm, he, hb⟩
    obtain ⟨rfl, rfl⟩ := freq69 hN hm
    exact ⟨he, hb⟩
  have hdr : ∀ W, Calls Tryd.prog 28 #[.agg #[.int .i64 440000, .int .i64 15000, .int .i64 20000]] W fun e w' => e = .returned (.tuple #[.int .i64 14891, .int .i64 0]) ∧ Below W.heap.size W w' := fun W => by
    refine (Drift_any 440000 15000 20000 W).mono ?_
    rintro e w' ⟨h | ⟨-, m, hm, he⟩, hb⟩
    · exact absurd (by decide +kernel : stdE 440000 15000 20000 = 0) h.1
    · obtain rfl := drift_val hm
      exact ⟨he, hb⟩
  have HF1 := Lib.hid hf1
  have HF2 := Lib.hid hf2
  have HDR := Lib.hid hdr
  clear hp hnm hf1 hf2 hdr
  generalize tmV std0 = L at *
  go_enter Tryd.func24, Tryd.ntmps24
  go_wp2_with fail
  refine (HUS.out _ _).mono ?_
  rintro e w1 ⟨he, hb1⟩
  subst he
  go_wp2_with fail
  refine (HNA.out _).mono ?_
  rintro e w2 ⟨he, hb2⟩
  subst he
  have HB2 := Lib.hid (hb1.trans (hb2.mono hb1.size))
  clear hb1 hb2
  go_wp2_with fail
  refine (HF1.out _ (HP.out.below HB2.out)).mono ?_
  rintro e w3 ⟨he, hb3⟩
  subst he
  have HB3 := Lib.hid (HB2.out.trans (hb3.mono HB2.out.size))
  clear hb3 HB2 HF1
  have r3 : RowV (w3.alloc (.cells #[.int .i64 261625, .int .i64 261626] 55)) w3.heap.size 55 [.int .i64 261625, .int .i64 261626] := RowV.of_alloc w3 55 [.int .i64 261625, .int .i64 261626]
  have hb3 : Below w.heap.size w (w3.alloc (.cells #[.int .i64 261625, .int .i64 261626] 55)) := HB3.out.alloc HB3.out.size _
  have R3 := Lib.hid r3
  have HB3' := Lib.hid hb3
  clear r3 hb3 HB3
  go_wp2_with fail
  refine (HUS.out _ _).mono ?_
  rintro e w4 ⟨he, hb4⟩
  subst he
  have R4 := Lib.hid (R3.out.up hb4)
  have HB4 := Lib.hid (HB3'.out.trans (hb4.mono HB3'.out.size))
  clear hb4 R3 HB3'
  go_wp2_with fail
  refine (HNA.out _).mono ?_
  rintro e w5 ⟨he, hb5⟩
  subst he
  have R5 := Lib.hid (R4.out.up hb5)
  have HB5 := Lib.hid (HB4.out.trans (hb5.mono HB4.out.size))
  clear hb5 R4 HB4
  go_wp2_with fail
  refine (HF2.out _ (HP.out.below HB5.out)).mono ?_
  rintro e w6 ⟨he, hb6⟩
  subst he
  have R6 := Lib.hid ((R5.out.up hb6).alloc (.cells #[.int .i64 443801, .int .i64 443802] 55))
  have S6 := Lib.hid (RowV.of_alloc w6 55 [.int .i64 443801, .int .i64 443802])
  have hb6' := HB5.out.trans (hb6.mono HB5.out.size)
  have HB6 := Lib.hid (hb6'.alloc hb6'.size (.cells #[.int .i64 443801, .int .i64 443802] 55))
  clear hb6 hb6' R5 HB5 HF2
  go_wp2_with fail
  refine (HUS.out _ _).mono ?_
  rintro e w7 ⟨he, hb7⟩
  subst he
  have R7 := Lib.hid (R6.out.up hb7)
  have S7 := Lib.hid (S6.out.up hb7)
  have HB7 := Lib.hid (HB6.out.trans (hb7.mono HB6.out.size))
  clear hb7 R6 S6 HB6
  go_wp2_with fail
  refine (HDR.out _).mono ?_
  rintro e w8 ⟨he, hb8⟩
  subst he
  have c0 := RowV.c0 (R7.out.up hb8)
  have c1 := RowV.c1 (R7.out.up hb8)
  have d0 := RowV.c0 (S7.out.up hb8)
  have d1 := RowV.c1 (S7.out.up hb8)
  have HB8 := Lib.hid (HB7.out.trans (hb8.mono HB7.out.size))
  clear hb8 R7 S7 HB7 HDR HUS HNA
  go_wp2
  go_ret
  exact ⟨rfl, HB8.out⟩
end Go.Proofs.YtkoghdgfllichaaDoor.Pc
