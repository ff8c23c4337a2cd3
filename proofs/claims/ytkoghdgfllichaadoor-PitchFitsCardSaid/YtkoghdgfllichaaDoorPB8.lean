import Derived.Test.YtkoghdgfllichaaDoorPBA
import Derived.Test.YtkoghdgfllichaaDoorTA6
import Derived.Test.YtkoghdgfllichaaDoorPAD
namespace Go.Proofs.YtkoghdgfllichaaDoor.Pc
open Go.RowKit Tp

/-! The law's sound and doubles. -/
theorem wpList_load_midw {P : Program} {ops : Array Oper} {rest : List Oper} {op : Oper} {a : Act} {w : World} {Q : Exit → Act → World → Prop} (hw : Region.wanted op (yielded ops a.tmps) = true) (ty : TypeId) (x : Operand) (ho : op.op = .load ty x)
    (b o : Nat) (hx : a.eval x = .pointer (some ⟨b, o, none⟩)) (cs : List Value) (d : TypeDesc) (hc : w.rangeAt b o cs)
    (hu : P.underlying ty = some d) (hd : d.isRow = true) (hi : (P.info? ty).map (·.size) = some cs.length)
    (h : wpList P ops Q rest (a.put op.dst (.agg cs.toArray)) w) : wpList P ops Q (op :: rest) a w := by
  unfold wpList
  rw [if_pos hw]
  exact Or.inl (wp_load_mid ty x ho b o hx cs d hc hu hd hi h)
/-- The cells of a case: a standard and a temperament. -/
def csV (a t0 t : Int) (T : Tm) : List Value := .int .i64 a :: .int .i64 t0 :: .int .i64 t :: tmV T
theorem cs_std {w : World} {g : Nat} {ty : TypeId} {a t0 t : Int} {T : Tm} (h : RowV w g ty (csV a t0 t T)) : w.rangeAt g 0 [.int .i64 a, .int .i64 t0, .int .i64 t] := fun j v hj => by
  refine h.all j v ?_
  match j, hj with
  | 0, hj => exact hj
  | 1, hj => exact hj
  | 2, hj => exact hj
theorem cs_tm {w : World} {g : Nat} {ty : TypeId} {a t0 t : Int} {T : Tm} (h : RowV w g ty (csV a t0 t T)) : w.rangeAt g 3 (tmV T) := fun j v hj => by
  have h1 := h.all (j + 3) v hj
  rw [Nat.zero_add] at h1
  rw [Nat.add_comm 3 j]
  exact h1
theorem szStd (a t0 t : Int) : (Tryd.prog.info? 50).map (·.size) = some ([.int .i64 a, .int .i64 t0, .int .i64 t] : List Value).length := by show _ = some 3; kernel_rfl
theorem szCs {a t0 t : Int} {T : Tm} (hl : T.ps.length = 12) : (Tryd.prog.info? 52).map (·.size) = some (csV a t0 t T).length := by
  show _ = some ((tmV T).length + 3)
  rw [tmV_len, hl]; kernel_rfl
/-- What sound returns. -/
def SndIs (E C n : Int) (b : Bool) : Prop := b = true ↔ E = 0 ∧ C = 0 ∧ 0 ≤ n ∧ n ≤ 139
set_option maxRecDepth 100000 in
set_option maxHeartbeats 1000000 in
theorem sound_any (a t0 t : Int) (T : Tm) (n : Int) (w : World) (hl : T.ps.length = 12) (hs : T.nm.size ≤ maxLen) : Calls Tryd.prog 23 #[.agg (csV a t0 t T).toArray, .int .i64 n] w fun e w' => (∃ b, e = .returned (.bool b) ∧ SndIs (stdE a t0 t) (chkT T) n b) ∧ Below w.heap.size w w' := by
  have HB := Lib.hid (belB w (.cells (csV a t0 t T).toArray 52))
  have HR := Lib.hid (RowV.of_alloc w 52 (csV a t0 t T))
  have HI1 := Lib.hid (szStd a t0 t)
  have HI2 := Lib.hid (szT hl)
  have HCK := Lib.hid (fun W => prCheck_any a t0 t W)
  have HRC := Lib.hid (fun W => Tp.rCheck_any T W hl hs)
  have HS := Lib.hid (cs_std HR.out)
  have HT := Lib.hid (fun w' (h : RowV w' w.heap.size 52 (csV a t0 t T)) => cs_tm h)
  clear hl hs
  generalize csV a t0 t T = CS at *
  generalize tmV T = L at *
  generalize stdE a t0 t = E at *
  generalize chkT T = C at *
  go_enter Tryd.func23, Tryd.ntmps23
  go_wp2_with ((show wpList _ _ _ (⟨_, .load _ _, _, _, _, _⟩ :: _) _ _); refine wpList_load_mid rfl 50 _ rfl w.heap.size 0 rfl [.int .i64 a, .int .i64 t0, .int .i64 t] _ HS.out Tryd.underlying50 rfl HI1.out ?_)
  refine (HCK.out _).mono ?_
  rintro e w1 ⟨he, hb1⟩
  subst he
  have hr1 := HR.out.up hb1
  have HB1 := Lib.hid (HB.out.trans (hb1.mono HB.out.size))
  have HT1 := Lib.hid (HT.out w1 hr1)
  clear hb1 hr1 HR HB HT HS HCK
  by_cases hE : E = 0
  · subst hE
    go_wp2_with ((show wpList _ _ _ (⟨_, .load _ _, _, _, _, _⟩ :: _) _ _); refine wpList_load_midw (by rfl) 38 _ rfl w.heap.size 3 rfl L _ HT1.out Tryd.underlying38 rfl HI2.out ?_)
    refine (HRC.out _).mono ?_
    rintro e w2 ⟨he, hb2⟩
    subst he
    have HB2 := Lib.hid (HB1.out.trans (hb2.mono HB1.out.size))
    clear hb2 HT1 HB1 HRC HI1 HI2
    by_cases hC : C = 0
    · subst hC
      by_cases h1 : 0 ≤ n
      · by_cases h2 : n ≤ 139
        · go_wp2_with fail
          go_ret
          exact ⟨⟨_, rfl, by unfold SndIs; simp [h1, h2]⟩, HB2.out⟩
        · have h2' : decide (n ≤ 139) = false := by simp [h2]
          have H2 := Lib.hid h2
          clear h2
          go_wp2_with fail
          go_ret
          exact ⟨⟨_, rfl, by have := H2.out; unfold SndIs; simp; omega⟩, HB2.out⟩
      · have h1' : decide (0 ≤ n) = false := by simp [h1]
        have H1 := Lib.hid h1
        clear h1
        go_wp2_with fail
        go_ret
        exact ⟨⟨_, rfl, by have := H1.out; unfold SndIs; simp; omega⟩, HB2.out⟩
    · have hCb : (C == 0) = false := by simp [hC]
      have HC := Lib.hid hC
      clear hC
      go_wp2_with fail
      go_ret
      exact ⟨⟨_, rfl, by have := HC.out; unfold SndIs; simp; omega⟩, HB2.out⟩
  · have hEb : (E == 0) = false := by simp [hE]
    have HE := Lib.hid hE
    clear hE
    go_wp2_with fail
    go_ret
    exact ⟨⟨_, rfl, by have := HE.out; unfold SndIs; simp; omega⟩, HB1.out⟩
end Go.Proofs.YtkoghdgfllichaaDoor.Pc
