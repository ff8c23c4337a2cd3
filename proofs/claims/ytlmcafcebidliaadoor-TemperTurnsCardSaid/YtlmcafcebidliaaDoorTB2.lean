import Derived.Test.YtlmcafcebidliaaDoorTAG
import Derived.Test.YtlmcafcebidliaaDoorTBA
namespace Go.Proofs.YtlmcafcebidliaaDoor.Tp
open Go.RowKit

/-! The law on Turn and Standard. -/
theorem wpList_load_midw {P : Program} {ops : Array Oper} {rest : List Oper} {op : Oper} {a : Act} {w : World} {Q : Exit → Act → World → Prop} (hw : Region.wanted op (yielded ops a.tmps) = true) (ty : TypeId) (x : Operand) (ho : op.op = .load ty x)
    (b o : Nat) (hx : a.eval x = .pointer (some ⟨b, o, none⟩)) (cs : List Value) (d : TypeDesc) (hc : w.rangeAt b o cs)
    (hu : P.underlying ty = some d) (hd : d.isRow = true) (hi : (P.info? ty).map (·.size) = some cs.length)
    (h : wpList P ops Q rest (a.put op.dst (.agg cs.toArray)) w) : wpList P ops Q (op :: rest) a w := by
  unfold wpList
  rw [if_pos hw]
  exact Or.inl (wp_load_mid ty x ho b o hx cs d hc hu hd hi h)
theorem both_turns (T : Tm) (b : Int) (hl : T.ps.length = 12) (hs : T.nm.size ≤ maxLen) : ∃ (V : Tm) (x : Int), V.ps.length = 12 ∧
    (∀ W, Calls Tryd.prog 11 #[.agg (tmV T).toArray, .int .i64 b] W fun e w' => e = .returned (.tuple #[.agg (tmV V).toArray, .int .i64 x]) ∧ Below W.heap.size W w') ∧
    (∀ W, Calls Tryd.prog 12 #[.agg (tmV T).toArray, .int .i64 b] W fun e w' => e = .returned (.tuple #[.agg (tmV V).toArray, .int .i64 x]) ∧ Below W.heap.size W w') := by
  by_cases hk : chkT T = 0
  · by_cases h1 : b < 0
    · exact ⟨tm0, 2, rfl, fun W => Turn_bad2 T b W hl hs hk (by unfold clB; rw [decide_eq_false (by omega)]; rfl), fun W => rTurn_bad2 T b W hl hs hk h1⟩
    · by_cases h2 : 11 < b
      · exact ⟨tm0, 2, rfl, fun W => Turn_bad2 T b W hl hs hk (by unfold clB; rw [decide_eq_false (p := b < 12) (by omega), Bool.and_false]), fun W => rTurn_bad3 T b W hl hs hk h2⟩
      · obtain ⟨n, rfl⟩ : ∃ n : Nat, b = (n : Int) := ⟨b.toNat, by omega⟩
        obtain ⟨D, wn, -, hvd⟩ := chk_vd hl hk
        exact ⟨turnT T n ((wn + 7 * n) % 12), 0, turnT_len _ _ _, fun W => Turn_ok T wn n W hl hs hk hvd.wo hvd.w (by omega), fun W => rTurn_ok T wn n W hl hs hk hvd.wo hvd.w (by omega)⟩
  · exact ⟨tm0, chkT T, rfl, fun W => Turn_bad1 T b W hl hs hk, fun W => rTurn_bad1 T b W hl hs hk⟩
theorem both_stds (s : ByteArray) : ∃ (V : Tm) (x : Int), V.ps.length = 12 ∧
    (∀ W, Calls Tryd.prog 13 #[.string s] W fun e w' => e = .returned (.tuple #[.agg (tmV V).toArray, .int .i64 x]) ∧ Below W.heap.size W w') ∧
    (∀ W, Calls Tryd.prog 14 #[.string s] W fun e w' => e = .returned (.tuple #[.agg (tmV V).toArray, .int .i64 x]) ∧ Below W.heap.size W w') := by
  by_cases n0 : s = ⟨#[101, 113, 117, 97, 108]⟩
  · subst n0
    exact ⟨std0, 0, rfl, fun W => Standard0 W, fun W => rStandard0 W⟩
  by_cases n1 : s = ⟨#[112, 121, 116, 104, 97, 103, 111, 114, 101, 97, 110]⟩
  · subst n1
    exact ⟨std1, 0, rfl, fun W => Standard1 W, fun W => rStandard1 W⟩
  by_cases n2 : s = ⟨#[109, 101, 97, 110, 116, 111, 110, 101]⟩
  · subst n2
    exact ⟨std2, 0, rfl, fun W => Standard2 W, fun W => rStandard2 W⟩
  by_cases n3 : s = ⟨#[119, 101, 114, 99, 107, 109, 101, 105, 115, 116, 101, 114]⟩
  · subst n3
    exact ⟨std3, 0, rfl, fun W => Standard3 W, fun W => rStandard3 W⟩
  by_cases n4 : s = ⟨#[107, 105, 114, 110, 98, 101, 114, 103, 101, 114]⟩
  · subst n4
    exact ⟨std4, 0, rfl, fun W => Standard4 W, fun W => rStandard4 W⟩
  by_cases n5 : s = ⟨#[118, 97, 108, 108, 111, 116, 116, 105]⟩
  · subst n5
    exact ⟨std5, 0, rfl, fun W => Standard5 W, fun W => rStandard5 W⟩
  by_cases n6 : s = ⟨#[121, 111, 117, 110, 103]⟩
  · subst n6
    exact ⟨std6, 0, rfl, fun W => Standard6 W, fun W => rStandard6 W⟩
  exact ⟨tm0, 4, rfl, fun W => StandardN s n0 n1 n2 n3 n4 n5 n6 W, fun W => rStandardN s n0 n1 n2 n3 n4 n5 n6 W⟩
set_option maxRecDepth 100000 in
set_option maxHeartbeats 4000000 in
theorem lawTurns_any (T : Tm) (b : Int) (s : ByteArray) (w : World) (hp : PrL w) (hl : T.ps.length = 12) (hs : T.nm.size ≤ maxLen) : Calls Tryd.prog 4 #[.agg (tmV T).toArray, .int .i64 b, .string s] w fun e w' => e = .returned (.bool true) ∧ Below w.heap.size w w' := by
  obtain ⟨V, x, hvl, ha1, ha2⟩ := both_turns T b hl hs
  obtain ⟨U, y, hul, ha3, ha4⟩ := both_stds s
  have HA1 := Lib.hid ha1
  have HA2 := Lib.hid ha2
  have HA3 := Lib.hid ha3
  have HA4 := Lib.hid ha4
  have HLV := Lib.hid hvl
  have HLU := Lib.hid hul
  have HSV := Lib.hid (szT hvl)
  have HSU := Lib.hid (szT hul)
  have HR := Lib.hid (RowV.of_alloc w 26 (tmV T))
  have HB := Lib.hid (belB w (.cells (tmV T).toArray 26))
  have HI2 := Lib.hid (szT hl)
  have HP := Lib.hid hp
  have hz := zero26
  clear ha1 ha2 ha3 ha4 hvl hul hs hl
  go_enter Tryd.func4, Tryd.ntmps4
  go_wp2_with ((show wpList _ _ _ (⟨_, .load _ _, _, _, _, _⟩ :: _) _ _); refine wpList_load_mid rfl 26 _ rfl w.heap.size 0 rfl (tmV T) _ HR.out.all Tryd.underlying26 rfl HI2.out ?_)
  refine (HA1.out _).mono ?_
  rintro e w1 ⟨he, hb⟩
  subst he
  have tHR := HR.out.up hb
  have tHB := HB.out.trans (hb.mono HB.out.size)
  clear hb HB HR
  have r0 := RowV.of_alloc w1 26 (tmV tm0)
  have hth : (w1.alloc (.cells (tmV tm0).toArray 26)).there w1.heap.size 0 (tmV V).toArray.size := r0.there (by rw [List.size_toArray, tmV_len, tmV_len, HLV.out]; decide)
  have r1 := r0.setCells (tmV V) 0 _ _ (by rw [tmV_len, tmV_len, HLV.out]; decide)
  rw [tmV_put V HLV.out] at r1
  have bA := below_setCells (g := w1.heap.size) (tmV V) 0 _ (belB w1 (.cells (tmV tm0).toArray 26)) (Nat.le_refl _)
  have HR := Lib.hid (tHR.up bA)
  have HB := Lib.hid (tHB.trans (bA.mono tHB.size))
  have HTHw1 := Lib.hid hth
  have R0 := Lib.hid r1
  clear r0 r1 hth bA tHB tHR
  go_wp2_with (first | ((show wpList _ _ _ (⟨_, .store _ _ _, _, _, _, _⟩ :: _) _ _); refine wpList_store_mid rfl 26 _ _ rfl w1.heap.size 0 (tmV V).toArray rfl rfl HTHw1.out HSV.out (oneT _) ?_) | ((show wpList _ _ _ (⟨_, .load _ _, _, _, _, _⟩ :: _) _ _); refine wpList_load_mid rfl 26 _ rfl w.heap.size 0 rfl (tmV T) _ HR.out.all Tryd.underlying26 rfl HI2.out ?_))
  refine (HA2.out _).mono ?_
  rintro e w2 ⟨he, hb⟩
  subst he
  have tHR := HR.out.up hb
  have tR0 := R0.out.up hb
  have tHB := HB.out.trans (hb.mono HB.out.size)
  clear hb HB HR R0
  have r0 := RowV.of_alloc w2 26 (tmV tm0)
  have hth : (w2.alloc (.cells (tmV tm0).toArray 26)).there w2.heap.size 0 (tmV V).toArray.size := r0.there (by rw [List.size_toArray, tmV_len, tmV_len, HLV.out]; decide)
  have r1 := r0.setCells (tmV V) 0 _ _ (by rw [tmV_len, tmV_len, HLV.out]; decide)
  rw [tmV_put V HLV.out] at r1
  have bA := below_setCells (g := w2.heap.size) (tmV V) 0 _ (belB w2 (.cells (tmV tm0).toArray 26)) (Nat.le_refl _)
  have HR := Lib.hid (tHR.up bA)
  have R0 := Lib.hid (tR0.up bA)
  have HB := Lib.hid (tHB.trans (bA.mono tHB.size))
  have HTHw2 := Lib.hid hth
  have R1 := Lib.hid r1
  clear r0 r1 hth bA tHB tHR tR0
  go_wp2_with ((show wpList _ _ _ (⟨_, .store _ _ _, _, _, _, _⟩ :: _) _ _); refine wpList_store_mid rfl 26 _ _ rfl w2.heap.size 0 (tmV V).toArray rfl rfl HTHw2.out HSV.out (oneT _) ?_)
  refine (HA3.out _).mono ?_
  rintro e w3 ⟨he, hb⟩
  subst he
  have tHR := HR.out.up hb
  have tR0 := R0.out.up hb
  have tR1 := R1.out.up hb
  have tHB := HB.out.trans (hb.mono HB.out.size)
  clear hb HB HR R0 R1
  have r0 := RowV.of_alloc w3 26 (tmV tm0)
  have hth : (w3.alloc (.cells (tmV tm0).toArray 26)).there w3.heap.size 0 (tmV U).toArray.size := r0.there (by rw [List.size_toArray, tmV_len, tmV_len, HLU.out]; decide)
  have r1 := r0.setCells (tmV U) 0 _ _ (by rw [tmV_len, tmV_len, HLU.out]; decide)
  rw [tmV_put U HLU.out] at r1
  have bA := below_setCells (g := w3.heap.size) (tmV U) 0 _ (belB w3 (.cells (tmV tm0).toArray 26)) (Nat.le_refl _)
  have HR := Lib.hid (tHR.up bA)
  have R0 := Lib.hid (tR0.up bA)
  have R1 := Lib.hid (tR1.up bA)
  have HB := Lib.hid (tHB.trans (bA.mono tHB.size))
  have HTHw3 := Lib.hid hth
  have R2 := Lib.hid r1
  clear r0 r1 hth bA tHB tHR tR0 tR1
  go_wp2_with ((show wpList _ _ _ (⟨_, .store _ _ _, _, _, _, _⟩ :: _) _ _); refine wpList_store_mid rfl 26 _ _ rfl w3.heap.size 0 (tmV U).toArray rfl rfl HTHw3.out HSU.out (oneT _) ?_)
  refine (HA4.out _).mono ?_
  rintro e w4 ⟨he, hb⟩
  subst he
  have tHR := HR.out.up hb
  have tR0 := R0.out.up hb
  have tR1 := R1.out.up hb
  have tR2 := R2.out.up hb
  have tHB := HB.out.trans (hb.mono HB.out.size)
  clear hb HB HR R0 R1 R2
  have r0 := RowV.of_alloc w4 26 (tmV tm0)
  have hth : (w4.alloc (.cells (tmV tm0).toArray 26)).there w4.heap.size 0 (tmV U).toArray.size := r0.there (by rw [List.size_toArray, tmV_len, tmV_len, HLU.out]; decide)
  have r1 := r0.setCells (tmV U) 0 _ _ (by rw [tmV_len, tmV_len, HLU.out]; decide)
  rw [tmV_put U HLU.out] at r1
  have bA := below_setCells (g := w4.heap.size) (tmV U) 0 _ (belB w4 (.cells (tmV tm0).toArray 26)) (Nat.le_refl _)
  have HR := Lib.hid (tHR.up bA)
  have R0 := Lib.hid (tR0.up bA)
  have R1 := Lib.hid (tR1.up bA)
  have R2 := Lib.hid (tR2.up bA)
  have HB := Lib.hid (tHB.trans (bA.mono tHB.size))
  have HTHw4 := Lib.hid hth
  have R3 := Lib.hid r1
  clear r0 r1 hth bA tHB tHR tR0 tR1 tR2
  have hev := fun W => eq_temper HLV.out W
  have heu := fun W => eq_temper HLU.out W
  have exx : (x == x) = true := by simp
  have eyy : (y == y) = true := by simp
  go_wp2_with (first | ((show wpList _ _ _ (⟨_, .store _ _ _, _, _, _, _⟩ :: _) _ _); refine wpList_store_mid rfl 26 _ _ rfl w4.heap.size 0 (tmV U).toArray rfl rfl HTHw4.out HSU.out (oneT _) ?_) | ((show wpList _ _ _ (⟨_, .load _ _, _, _, _, _⟩ :: _) _ _); refine wpList_load_midw (by rfl) 26 _ rfl w1.heap.size 0 rfl (tmV V) _ R0.out.all Tryd.underlying26 rfl HSV.out ?_) | ((show wpList _ _ _ (⟨_, .load _ _, _, _, _, _⟩ :: _) _ _); refine wpList_load_midw (by rfl) 26 _ rfl w2.heap.size 0 rfl (tmV V) _ R1.out.all Tryd.underlying26 rfl HSV.out ?_) | ((show wpList _ _ _ (⟨_, .load _ _, _, _, _, _⟩ :: _) _ _); refine wpList_load_midw (by rfl) 26 _ rfl w3.heap.size 0 rfl (tmV U) _ R2.out.all Tryd.underlying26 rfl HSU.out ?_) | ((show wpList _ _ _ (⟨_, .load _ _, _, _, _, _⟩ :: _) _ _); refine wpList_load_midw (by rfl) 26 _ rfl w4.heap.size 0 rfl (tmV U) _ R3.out.all Tryd.underlying26 rfl HSU.out ?_))
  refine (awake_any _ (HP.out.below HB.out)).mono ?_
  rintro e w8 ⟨he, hb⟩
  subst he
  have HB1 := Lib.hid (HB.out.trans (hb.mono HB.out.size))
  clear hb
  go_wp2
  go_ret
  exact ⟨rfl, HB1.out⟩
end Go.Proofs.YtlmcafcebidliaaDoor.Tp
