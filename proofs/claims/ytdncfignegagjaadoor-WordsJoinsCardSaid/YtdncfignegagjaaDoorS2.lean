import Derived.Test.YtdncfignegagjaaDoorS1
import Derived.Outline
namespace Go.Proofs
open Go.Shelf Go.RowKit

/-! What strings.Builder's writers do, at this program's numbers. -/
def Tryd.renB : Go.Shelf.Ren := ⟨fun | 167 => 63 | 170 => 65 | n => Tryd.lays155_ren.f n, Tryd.lays155_ren.t, Tryd.lays155_ren.g⟩
theorem Tryd.laysWB : Lays.n167 Tryd.prog Tryd.renB := {
  mixed := by kernel_rfl
  f167 := Tryd.func63.trans (congrArg some (by kernel_rfl))
  f240 := Tryd.func83.trans (congrArg some (by kernel_rfl))
  f276 := Tryd.func102.trans (congrArg some (by kernel_rfl))
  t0 := Tryd.lays155.t0
  a0 := Tryd.lays155.a0
  z0 := Tryd.lays155.z0
  v0 := Tryd.lays155.v0
  t4 := Tryd.lays155.t4
  a4 := Tryd.lays155.a4
  z4 := Tryd.lays155.z4
  v4 := Tryd.lays155.v4
  t5 := Tryd.lays155.t5
  a5 := Tryd.lays155.a5
  z5 := Tryd.lays155.z5
  v5 := Tryd.lays155.v5
  t9 := Tryd.lays155.t9
  a9 := Tryd.lays155.a9
  z9 := Tryd.lays155.z9
  v9 := Tryd.lays155.v9
  t20 := Tryd.lays155.t20
  a20 := Tryd.lays155.a20
  z20 := Tryd.lays155.z20
  v20 := Tryd.lays155.v20
  t37 := Tryd.lays155.t37
  a37 := Tryd.lays155.a37
  z37 := Tryd.lays155.z37
  v37 := Tryd.lays155.v37
  t70 := Tryd.lays155.t70
  a70 := Tryd.lays155.a70
  z70 := Tryd.lays155.z70
  v70 := Tryd.lays155.v70
  t72 := Tryd.lays155.t72
  a72 := Tryd.lays155.a72
  z72 := Tryd.lays155.z72
  v72 := Tryd.lays155.v72
  t75 := Tryd.lays155.t75
  a75 := Tryd.lays155.a75
  z75 := Tryd.lays155.z75
  v75 := Tryd.lays155.v75
  t164 := Tryd.lays155.t164
  a164 := Tryd.lays155.a164
  z164 := Tryd.lays155.z164
  v164 := Tryd.lays155.v164 }
theorem Tryd.laysBL : Lays.n170 Tryd.prog Tryd.renB := {
  mixed := by kernel_rfl
  f170 := Tryd.func65.trans (congrArg some (by kernel_rfl))
  t0 := Tryd.lays155.t0
  a0 := Tryd.lays155.a0
  z0 := Tryd.lays155.z0
  v0 := Tryd.lays155.v0
  t3 := Tryd.lays155.t3
  a3 := Tryd.lays155.a3
  z3 := Tryd.lays155.z3
  v3 := Tryd.lays155.v3
  t37 := Tryd.lays155.t37
  a37 := Tryd.lays155.a37
  z37 := Tryd.lays155.z37
  v37 := Tryd.lays155.v37
  t70 := Tryd.lays155.t70
  a70 := Tryd.lays155.a70
  z70 := Tryd.lays155.z70
  v70 := Tryd.lays155.v70
  t72 := Tryd.lays155.t72
  a72 := Tryd.lays155.a72
  z72 := Tryd.lays155.z72
  v72 := Tryd.lays155.v72 }
theorem Tryd.extraWB : Builder.Extra Tryd.prog Tryd.renB := {
  sizeBuilder := by kernel_rfl
  liesBuilder := by kernel_rfl
  t5 := Tryd.lays155.t5
  a5 := Tryd.lays155.a5
  z5 := Tryd.lays155.z5
  v5 := Tryd.lays155.v5
  infoByte := by kernel_rfl
  cellsByte := by kernel_rfl
  sizeByte := by kernel_rfl
  neB5 := by decide }

abbrev Tryd.IsB (B b : Nat) (bs : List Value) (w : World) : Prop := Lib.IsBuilder 87 5 B b bs w
theorem Tryd.wByte (B b : Nat) (bs : List Value) (c : Int) (w : World) (h : Tryd.IsB B b bs w) (hlen : bs.length + 1 ≤ 140737488355328) (hBw : B ≤ w.heap.size) :
    Calls Tryd.prog 63 #[.pointer (some ⟨b, 0, none⟩), .int .u8 c] w fun e w' => e = .returned .nilIface ∧ Tryd.IsB B b (bs ++ [.int .u8 c]) w' ∧ Below B w w' :=
  (Any.Builder_WriteByte Tryd.laysWB Tryd.extraWB B b bs c w h hlen hBw).mono fun _ _ ⟨e, h1, h2⟩ => ⟨e, .inr h1, h2⟩
theorem Tryd.wString (B b : Nat) (bs : List Value) (s : ByteArray) (w : World) (h : Tryd.IsB B b bs w) (hlen : bs.length + s.size ≤ 140737488355328) (hBw : B ≤ w.heap.size) :
    Calls Tryd.prog 64 #[.pointer (some ⟨b, 0, none⟩), .string s] w fun e w' => e = .returned (.tuple #[.int .i64 s.size, .nilIface]) ∧ Tryd.IsB B b (bs ++ Lib.strCells s) w' ∧ Below B w w' :=
  (Any.Builder_WriteString { Tryd.lays155 with } Tryd.Builder_Extra_155 B b bs s w h hlen hBw).mono fun _ _ ⟨e, h1, h2⟩ => ⟨e, .inr h1, h2⟩
theorem Tryd.bLen (B b : Nat) (bs : List Value) (w : World) (h : Tryd.IsB B b bs w) :
    Calls Tryd.prog 65 #[.pointer (some ⟨b, 0, none⟩)] w fun e w' => e = .returned (.int .i64 bs.length) ∧ w = w' :=
  (Any.Builder_Len Tryd.laysBL B b bs w h).mono fun _ _ ⟨e, h1⟩ => ⟨e, h1.symm⟩
theorem Tryd.bString (B b : Nat) (l : List UInt8) (w : World) (h : Tryd.IsB B b (Lib.byteCells l) w) (hBw : B ≤ w.heap.size) :
    Calls Tryd.prog 66 #[.pointer (some ⟨b, 0, none⟩)] w fun e w' => e = .returned (.string ⟨l.toArray⟩) ∧ Below B w w' :=
  Any.Builder_String_any { Tryd.lays155 with } Tryd.Builder_Extra_155 B b l w h hBw
end Go.Proofs
namespace Go.Proofs.YtdncfignegagjaaDoor
open Go.RowKit

theorem isB_up {B b : Nat} {bs : List Value} {w w' : World} (h : Tryd.IsB B b bs w) (hb : Below w.heap.size w w') : Tryd.IsB B b bs w' := by
  have key : ∀ p, Lib.BuilderAt 87 5 B b p bs w → Lib.BuilderAt 87 5 B b p bs w' := by
    rintro p h
    have hlt := h.lt
    obtain ⟨h1, v, h2, h3, h4⟩ := h
    exact ⟨h1, v, (hb.block b hlt).trans h2, h3.kept (grownBy_of_below hb) (by cases v.ownBlock <;> simp), h4⟩
  rcases h with h | h
  · exact .inl (key _ h)
  · exact .inr (key _ h)

theorem writeW_eq (x : Fld) : writeW x = if rightB x then (writeL x, 0) else ([], 2) := by
  obtain ⟨q, s⟩ := x
  cases q
  · rfl
  · show quoteW s = _
    unfold quoteW; rfl
theorem dbl_le (s : List UInt8) : (dbl s).length ≤ 2 * s.length := by
  induction s with
  | nil => simp [dbl]
  | cons c r ih => unfold dbl; split <;> simp <;> omega
theorem write_le {x : Fld} (h : rightB x = true) : (writeL x).length ≤ 500 := by
  obtain ⟨q, s⟩ := x
  cases q
  · have h1 : s.length ≤ 200 := textB_len (bare_good h).2.2
    show s.length ≤ 500; omega
  · have h1 : s.length ≤ 200 := textB_len h
    have h2 := dbl_le s
    show (quoted s).length ≤ 500
    unfold quoted; simp; omega
theorem joinL_le : ∀ (l : List Fld), (∀ x ∈ l, rightB x = true) → (joinL l).length ≤ 501 * l.length
  | [], _ => by simp [joinL]
  | [x], h => by have := write_le (h x (by simp)); show (writeL x).length ≤ _; simp; omega
  | x :: y :: r, h => by
    have h1 := write_le (h x (by simp))
    have h2 := joinL_le (y :: r) (fun z hz => h z (by simp [hz]))
    rw [joinL_cons x (by simp)]
    simp at h2 ⊢; omega

def JnRel (w : World) (xs : List Fld) (i : Value) (wr : World) : Prop :=
  ∃ k : Nat, k ≤ xs.length ∧ i = .int .i64 k ∧ (∀ x ∈ xs.take k, rightB x = true) ∧ Tryd.IsB w.heap.size w.heap.size (Lib.byteCells (joinL (xs.take k))) wr ∧ Below w.heap.size w wr

set_option maxRecDepth 100000 in
set_option maxHeartbeats 4000000 in
theorem join_any (v : Value) (xs : List Fld) (w : World) (hT : Tabs w) (hx : SlF w w.heap.size v xs) (hlen : xs.length ≤ 1000000) (hstr : ∀ x ∈ xs, x.2.length ≤ maxLen) :
    Calls Tryd.prog 38 #[v] w fun e w' => e = .returned (strV (joinW xs)) ∧ Below w.heap.size w w' := by
  obtain ⟨A, cap, rfl, hc⟩ := hx
  have HC := Lib.hid hc
  have HT := Lib.hid hT
  have HS := Lib.hid hstr
  clear hc hT hstr
  by_cases h64 : 64 < xs.length
  · have hf := Lib.hid (show joinW xs = ([], 3) by rw [joinW, if_pos h64])
    go_enter Tryd.func38, Tryd.ntmps38
    go_wp2
    go_ret2
    exact ⟨ret_strV hf.out, Below.refl _ _⟩
  have hjw := Lib.hid (show joinW xs = if xs.any (fun x => !rightB x) then ([], 2) else if 4096 < (joinL xs).length then ([], 3) else (joinL xs, 0) by rw [joinW, if_neg h64])
  have q1 : decide (64 < xs.length) = false := by simp; omega
  have hb0 : Below w.heap.size w (w.alloc (.cells #[.pointer none, .slice none 0 0] 87)) := (Below.refl _ _).alloc (Nat.le_refl _) _
  have hB0 := Lib.hid (Lib.fresh_isBuilder 87 5 w)
  go_enter Tryd.func38, Tryd.ntmps38
  go_wp2
  go_loopw [14] (fun i wr => JnRel w xs i wr) (fun i _ => xs.length - (intOf i).toNat)
  case atStart => exact ⟨0, Nat.zero_le _, rfl, by simp, hB0.out, hb0⟩
  case round =>
    obtain ⟨k, hk, rfl, hgood, hB, hb⟩ := hrel
    have HGood := Lib.hid hgood
    have HB := Lib.hid hB
    clear hgood hB
    by_cases hlt : k < xs.length
    · obtain ⟨x, hx⟩ : ∃ x, xs[k]? = some x := ⟨xs[k], List.getElem?_eq_getElem hlt⟩
      obtain ⟨g, o, rfl, hg, hcell⟩ := HC.out (by intro e; rw [e] at hlt; simp at hlt)
      obtain ⟨c0, c1⟩ := hcell k x hx
      have c0 := (hb.cell (p := ⟨g, o + k * 2, none⟩) hg).trans c0
      have c1 := (hb.cell (p := ⟨g, o + k * 2 + 1, none⟩) hg).trans c1
      have HX := Lib.hid hx
      obtain ⟨q, s⟩ := x
      simp only at c0 c1
      have hbs := hb.size
      have hb1 : Below wr.heap.size wr (wr.alloc (.cells #[.bool q, .string ⟨s.toArray⟩] 53)) := (Below.refl _ _).alloc (Nat.le_refl _) _
      have hxl : s.length ≤ maxLen := HS.out _ (List.mem_of_getElem? HX.out)
      have hwf := writeField_any q ⟨s.toArray⟩ (wr.alloc (.cells #[.bool q, .string ⟨s.toArray⟩] 53)) (HT.out.below (hb.trans (hb1.mono hbs))) hxl
      have hwe := writeW_eq (q, s)
      have htk := take_snoc' xs k _ HX.out
      by_cases hr : rightB (q, s) = true
      · rw [if_pos hr] at hwe
        have hwl := write_le hr
        have hj := joinL_le _ HGood.out
        rw [List.length_take, Nat.min_eq_left hk] at hj
        obtain ⟨W, hW⟩ : ∃ W : ByteArray, W = ⟨(writeL (q, s)).toArray⟩ := ⟨_, rfl⟩
        have hWl : W.data.toList = writeL (q, s) := by rw [hW]
        have hWs : W.size ≤ 500 := by rw [← len_eq, hWl]; exact hwl
        have hwv : strV (writeW (q, (⟨s.toArray⟩ : ByteArray).data.toList)) = .tuple #[.string W, .int .i64 0] := by
          show strV (writeW (q, s)) = _
          rw [hwe, hW]; rfl
        rw [hwv] at hwf
        have hsn := joinL_snoc (xs.take k) (q, s)
        rw [← htk, ← hWl] at hsn
        have hgood' : ∀ y ∈ xs.take (k + 1), rightB y = true := by
          rw [htk]; intro y hy
          rcases List.mem_append.1 hy with h | h
          · exact HGood.out y h
          · rw [List.mem_singleton.1 h]; exact hr
        have HG' := Lib.hid hgood'
        have HSN := Lib.hid hsn
        have HWF := Lib.hid hwf
        have hjl : (joinL (xs.take k)).length ≤ 100000 := by omega
        have HB1 := Lib.hid (isB_up HB.out hb1)
        have hb2 := hb.trans (hb1.mono hbs)
        have HB2 := Lib.hid hb2
        have HWE := Lib.hid hWl
        have hWm : (joinL (xs.take k)).length + 1 + W.size ≤ 140737488355328 := by omega
        clear hwe htk hwl hj hW hWl hwv hsn hgood' hwf HB hr hb1
        generalize hJ : joinL (xs.take k) = J at *
        have HJ := Lib.hid hJ
        clear hJ
        have hBl : (Lib.byteCells J).length = J.length := Lib.byteCells_length J
        have HBL := Lib.hid hBl
        clear hBl
        by_cases hk0 : 0 < k
        · have hne : xs.take k ≠ [] := by
            intro e
            have := congrArg List.length e
            rw [List.length_take, Nat.min_eq_left hk] at this
            have h0 : k = 0 := this
            omega
          have HN := Lib.hid hne
          clear hne
          go_wp2_with fail
          refine HWF.out.mono ?_
          rintro e w1 ⟨rfl, hb3⟩
          have hb3' := HB2.out.trans (hb3.mono HB2.out.size)
          have HB3 := Lib.hid hb3'
          have HBB := Lib.hid (isB_up HB1.out hb3)
          clear hb3 hb3' c0 c1 hb
          go_wp2_with fail
          refine (Tryd.wByte w.heap.size w.heap.size (Lib.byteCells J) 32 _ HBB.out (by rw [HBL.out]; omega) HB3.out.size).mono ?_
          rintro e w2 ⟨rfl, hB4, hb4⟩
          have hb4' := HB3.out.trans hb4
          have HB4 := Lib.hid hb4'
          have HBC := Lib.hid hB4
          clear hb4 hb4' hB4
          go_wp2_with fail
          refine (Tryd.wString w.heap.size w.heap.size (Lib.byteCells J ++ [.int .u8 32]) W _ HBC.out (by rw [List.length_append, HBL.out]; exact hWm) HB4.out.size).mono ?_
          rintro e w3 ⟨rfl, hB5, hb5⟩
          have hb5' := HB4.out.trans hb5
          have HBD := Lib.hid hB5
          have HB5 := Lib.hid hb5'
          clear hb5 hb5' hB5
          go_wp2_with fail
          go_roundw
          case rel =>
            refine ⟨k + 1, by omega, by go_num, HG'.out, ?_, HB5.out⟩
            have e1 : Lib.byteCells (joinL (xs.take (k + 1))) = Lib.byteCells J ++ [.int .u8 32] ++ Lib.strCells W := by
              rw [HSN.out, if_neg HN.out]
              simp [Lib.byteCells, Lib.strCells]
            rw [e1]; exact HBD.out
          case measure => simp [intOf]; omega
        · obtain rfl : k = 0 := by omega
          simp only [Nat.zero_mul, Nat.add_zero] at c0 c1
          go_wp2_with fail
          refine HWF.out.mono ?_
          rintro e w1 ⟨rfl, hb3⟩
          have hb3' := HB2.out.trans (hb3.mono HB2.out.size)
          have HB3 := Lib.hid hb3'
          have HBB := Lib.hid (isB_up HB1.out hb3)
          clear hb3 hb3' c0 c1 hb
          go_wp2_with fail
          refine (Tryd.wString w.heap.size w.heap.size (Lib.byteCells J) W _ HBB.out (by rw [HBL.out]; omega) HB3.out.size).mono ?_
          rintro e w3 ⟨rfl, hB5, hb5⟩
          have hb5' := HB3.out.trans hb5
          have HBD := Lib.hid hB5
          have HB5 := Lib.hid hb5'
          clear hb5 hb5' hB5
          go_wp2_with fail
          go_roundw
          case rel =>
            refine ⟨1, by omega, rfl, HG'.out, ?_, HB5.out⟩
            have e1 : Lib.byteCells (joinL (xs.take 1)) = Lib.byteCells J ++ Lib.strCells W := by
              rw [← HJ.out, HSN.out]
              simp [Lib.byteCells, Lib.strCells, joinL]
            rw [e1]; exact HBD.out
          case measure => simp [intOf]; omega
      · rw [if_neg hr] at hwe
        have hany : xs.any (fun x => !rightB x) = true := by
          rw [List.any_eq_true]
          exact ⟨_, List.mem_of_getElem? HX.out, by simpa using hr⟩
        have hf := Lib.hid (show joinW xs = ([], 2) by rw [hjw.out, if_pos hany])
        have hwv : strV (writeW (q, (⟨s.toArray⟩ : ByteArray).data.toList)) = .tuple #[.string ⟨#[]⟩, .int .i64 2] := by
          show strV (writeW (q, s)) = _
          rw [hwe]; rfl
        rw [hwv] at hwf
        have HWF := Lib.hid hwf
        have hb2 := hb.trans (hb1.mono hbs)
        have HB2 := Lib.hid hb2
        clear hwe hwv hwf hany hr htk HB hb1
        go_wp2_with fail
        refine HWF.out.mono ?_
        rintro e w1 ⟨rfl, hb3⟩
        have hb3' := HB2.out.trans (hb3.mono HB2.out.size)
        clear hb3 c0 c1 hb
        go_wp2_with fail
        go_ret2
        exact ⟨ret_strV hf.out, hb3'⟩
    · obtain rfl : k = xs.length := by omega
      have hany : ¬ xs.any (fun x => !rightB x) = true := by
        rw [List.any_eq_true]
        rintro ⟨x, h1, h2⟩
        have := HGood.out x (by rw [List.take_length]; exact h1)
        rw [this] at h2; cases h2
      have hj2 : joinW xs = if 4096 < (joinL xs).length then ([], 3) else (joinL xs, 0) := by rw [hjw.out, if_neg hany]
      have hBx := HB.out
      rw [List.take_length] at hBx
      have hlen2 : (Lib.byteCells (joinL xs)).length = (joinL xs).length := Lib.byteCells_length _
      have HBx := Lib.hid hBx
      have HJ2 := Lib.hid hj2
      have HBl := Lib.hid (Tryd.bLen _ _ _ _ hBx)
      have hbl : ∀ W, Tryd.IsB w.heap.size w.heap.size (Lib.byteCells (joinL xs)) W → Calls Tryd.prog 65 #[.pointer (some ⟨w.heap.size, 0, none⟩)] W fun e w' => e = .returned (.int .i64 ((joinL xs).length : Int)) ∧ W = w' := by
        intro W hW
        have := Tryd.bLen _ _ _ W hW
        rw [hlen2] at this; exact this
      have HBL := Lib.hid (hbl _ hBx)
      have HBS := Lib.hid (Tryd.bString _ _ _ _ hBx hb.size)
      clear hany hj2 hBx hlen2 HB hbl HBl
      by_cases h4 : 4096 < (joinL xs).length
      · have hf := Lib.hid (show joinW xs = ([], 3) by rw [HJ2.out, if_pos h4])
        generalize (joinL xs).length = N at *
        go_wp2_with fail
        refine HBL.out.mono ?_
        rintro e w1 ⟨rfl, rfl⟩
        go_wp2_with fail
        go_ret2
        exact ⟨ret_strV hf.out, hb⟩
      · have hf := Lib.hid (show joinW xs = (joinL xs, 0) by rw [HJ2.out, if_neg h4])
        generalize hN : (joinL xs).length = N at *
        have HN := Lib.hid hN
        clear hN
        go_wp2_with fail
        refine HBL.out.mono ?_
        rintro e w1 ⟨rfl, rfl⟩
        go_wp2_with fail
        refine HBS.out.mono ?_
        rintro e w2 ⟨rfl, hb2⟩
        go_wp2_with fail
        go_ret2
        exact ⟨ret_strV hf.out, hb.trans hb2⟩
end Go.Proofs.YtdncfignegagjaaDoor
