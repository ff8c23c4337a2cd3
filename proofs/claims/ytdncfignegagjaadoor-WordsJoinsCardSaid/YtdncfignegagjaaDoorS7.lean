import Derived.Test.YtdncfignegagjaaDoorS6
import Derived.Deep.SlicePairs
namespace Go.Proofs.YtdncfignegagjaaDoor
open Go.RowKit Go.ChangeShapes Go.WideShapes

def fldOf (a b : Value) : Fld := (match a with | .bool x => x | _ => false, match b with | .string s => s.data.toList | _ => [])
theorem cW2 : Tryd.prog.cellsOf 53 = 2 := by kernel_rfl
theorem cW0 : Tryd.prog.cellsOf 4 = 1 := by kernel_rfl
set_option maxRecDepth 100000 in
/-- An argument that is a list of fields. -/
theorem open_fields {H : Type} {enc : TypeId × Value → H} {W : World} {base : Nat} {v : Value} {d : DataW H} {p : List MemPlace} (hval : Value.okWide Tryd.prog W .any base 43 v)
    (h : DataW.Trod enc Tryd.prog W 0 (fun _ => true) true 43 v d p) : ∃ xs : List Fld, SlF W W.heap.size v xs ∧ xs.length ≤ maxLen ∧ ∀ x ∈ xs, x.2.length ≤ maxLen := by
  obtain ⟨a', len', cap', rfl⟩ := okWide_slice Tryd.underlying43 hval
  obtain ⟨fuel, hf⟩ := h
  rcases Go.Deep.open_slice_pairs Tryd.underlying43 Tryd.underlying53 cW2 rfl rfl cW0 Tryd.cStr hf with ⟨hc, _⟩ | ⟨a, len, cap, m, n, V0, V1, D0, D1, P0, P1, hc, _, hlc, hcm, hm, _, hx⟩
  · have e : (Value.slice a' len' cap') = .slice none 0 0 := by simpa [Value.cells] using hc
    rw [e]
    exact ⟨[], ⟨none, 0, rfl, fun h => absurd rfl h⟩, by simp, by simp⟩
  · have e : (Value.slice a' len' cap') = .slice (some a) len cap := by simpa [Value.cells] using hc
    rw [e]
    simp only [if_true] at hm
    subst hm
    have hV : ∀ i, i < len → V0 i = .bool (fldOf (V0 i) (V1 i)).1 ∧ V1 i = .string ⟨(fldOf (V0 i) (V1 i)).2.toArray⟩ ∧ (fldOf (V0 i) (V1 i)).2.length ≤ maxLen := by
      intro i hi
      obtain ⟨_, _, h0, h1⟩ := hx i (by omega)
      obtain ⟨b, hb, _⟩ := DataW.trod_bool Tryd.underlying4 h0
      obtain ⟨s, hs, _, hsl⟩ := DataW.trod_string Tryd.underlying9 h1
      simp only [List.cons.injEq, and_true] at hb hs
      rw [hb, hs]
      exact ⟨rfl, rfl, hsl⟩
    refine ⟨(List.range len).map fun i => fldOf (V0 i) (V1 i), ⟨some a, m, by simp, fun hne => ?_⟩, by simp; omega, ?_⟩
    · have hpos : 0 < len := by
        rcases Nat.eq_zero_or_pos len with h | h
        · subst h; simp at hne
        · exact h
      obtain ⟨b, off, spot⟩ := a
      have hc0 := (hx 0 (by omega)).1
      have hspot : spot = none := by simpa [Addr.add] using World.cell?_spot hc0
      subst hspot
      refine ⟨b, off, rfl, ?_, ?_⟩
      · have := World.block_lt_of_cell? W _ hc0
        simpa [Addr.add] using this
      · intro k x hk
        rw [List.getElem?_map] at hk
        obtain ⟨j, hj, rfl⟩ := Option.map_eq_some_iff.1 hk
        obtain ⟨hkl, hkj⟩ := List.getElem?_eq_some_iff.1 hj
        rw [List.length_range] at hkl
        rw [List.getElem_range] at hkj
        subst hkj
        obtain ⟨h1, h2, _, _⟩ := hx k (by omega)
        obtain ⟨e1, e2, _⟩ := hV k hkl
        rw [add_plain] at h1 h2
        rw [← e1, ← e2, Nat.add_assoc]
        exact ⟨h1, h2⟩
    · intro x hxm
      obtain ⟨i, hi, rfl⟩ := List.mem_map.1 hxm
      exact (hV i (List.mem_range.1 hi)).2.2

/-- The lengths that the law adds up. -/
def sumL (l : List Fld) : Nat := (l.map fun x => min x.2.length 6001).sum
theorem sumL_snoc (l : List Fld) (x : Fld) : sumL (l ++ [x]) = sumL l + min x.2.length 6001 := by simp [sumL]
theorem sumL_le (l : List Fld) : sumL l ≤ 6001 * l.length := by
  induction l with
  | nil => simp [sumL]
  | cons x r ih =>
    have e : sumL (x :: r) = min x.2.length 6001 + sumL r := by simp [sumL]
    rw [e]; simp only [List.length_cons]; omega
theorem sumL_mem : ∀ {l : List Fld} {x : Fld}, x ∈ l → min x.2.length 6001 ≤ sumL l
  | [], _, h => by cases h
  | y :: r, x, h => by
    have e : sumL (y :: r) = min y.2.length 6001 + sumL r := by simp [sumL]
    rw [e]
    rcases List.mem_cons.1 h with rfl | h
    · omega
    · have := sumL_mem h; omega

set_option maxRecDepth 100000 in
set_option maxHeartbeats 8000000 in
/-- The law WordsJoins. -/
theorem lawJoins_any (v : Value) (xs : List Fld) (w : World) (hT : Tabs w) (hx : SlF w w.heap.size v xs) (hlen : xs.length ≤ maxLen) (hstr : ∀ x ∈ xs, x.2.length ≤ maxLen) :
    Calls Tryd.prog 9 #[v] w fun e w' => e = .returned (.bool true) ∧ Below w.heap.size w w' := by
  have HX := Lib.hid hx
  have HT := Lib.hid hT
  have HS := Lib.hid hstr
  unfold maxLen at hlen
  obtain ⟨A, cap, rfl, hc⟩ := hx
  have HC := Lib.hid hc
  clear hT hstr hc
  by_cases h100 : 100 < xs.length
  · go_enter Tryd.func9, Tryd.ntmps9
    go_wp2_with fail
    refine (shown_any _ HT.out).mono ?_
    rintro e w1 ⟨rfl, hb⟩
    go_wp2_with fail
    go_ret
    exact ⟨rfl, hb⟩
  have q1 : decide (100 < xs.length) = false := by simp; omega
  go_enter Tryd.func9, Tryd.ntmps9
  go_wp2_with fail
  go_loop [3, 4] (fun n i => ∃ k : Nat, k ≤ xs.length ∧ i = .int .i64 k ∧ n = .int .i64 (sumL (xs.take k) : Nat)) (fun _ i => xs.length - (intOf i).toNat)
  case atStart => exact ⟨0, Nat.zero_le _, rfl, rfl⟩
  case round =>
    obtain ⟨k, hk, rfl, rfl⟩ := hrel
    have hsl := sumL_le (xs.take k)
    rw [List.length_take, Nat.min_eq_left hk] at hsl
    by_cases hlt : k < xs.length
    · obtain ⟨x, hx⟩ : ∃ x, xs[k]? = some x := ⟨xs[k], List.getElem?_eq_getElem hlt⟩
      obtain ⟨g, o, rfl, hg, hcell⟩ := HC.out (by intro e; rw [e] at hlt; simp at hlt)
      obtain ⟨c0, c1⟩ := hcell k x hx
      have hst := sumL_snoc (xs.take k) x
      rw [← take_snoc' xs k x hx] at hst
      have hxl := HS.out x (List.mem_of_getElem? hx)
      obtain ⟨q, sl⟩ := x
      obtain ⟨s, rfl⟩ : ∃ s : ByteArray, sl = s.data.toList := ⟨⟨sl.toArray⟩, rfl⟩
      have c1 : w.cell? ⟨g, o + k * 2 + 1, none⟩ = some (.string s) := c1
      simp only [len_eq] at hst hxl
      unfold maxLen at hxl
      have HST := Lib.hid hst
      clear hcell hx hst c0
      generalize hS : sumL (xs.take k) = S at *
      have hS2 : S ≤ 700000 := by omega
      clear hS hsl
      by_cases hm : s.size < 6001
      all_goals
        go_wp2
        go_round
        case rel => exact ⟨k + 1, by omega, by go_num, by first | (rw [HST.out, Nat.min_eq_left (by omega)]; go_num) | (rw [HST.out, Nat.min_eq_right (by omega)]; go_num)⟩
        case measure => simp [intOf]; omega
    · obtain rfl : k = xs.length := by omega
      have hall : sumL xs ≤ 6000 → ∀ x ∈ xs, x.2.length ≤ 6000 := fun h x hx => by have := sumL_mem hx; omega
      have HALL := Lib.hid hall
      rw [List.take_length] at hsl ⊢
      clear hall
      generalize hS : sumL xs = S at *
      have HSS := Lib.hid hS
      clear hS
      by_cases h6 : 6000 < S
      · go_wp2_with fail
        refine (shown_any _ HT.out).mono ?_
        rintro e w1 ⟨rfl, hb⟩
        go_wp2_with fail
        go_ret
        exact ⟨rfl, hb⟩
      · have h6' : ∀ x ∈ xs, x.2.length ≤ 6000 := HALL.out (by omega)
        have hl : xs.length ≤ 1000000 := by omega
        have c1 := fun W hT hx => join_any (.slice A xs.length cap) xs W hT hx hl HS.out
        have c2 := fun v W hx => rjoin_any v xs W hx hl HS.out
        have hsp : (joinW xs).2 = 0 → splitW (joinW xs).1 = (xs, 0) := split_join
        have hjl : (joinW xs).1.length ≤ 4096 := by
          unfold joinW
          split
          · simp
          · split
            · simp
            · split
              · simp
              · simp only; omega
        generalize joinW xs = x at *
        obtain ⟨t, er⟩ := x
        obtain ⟨T, hT⟩ : ∃ T : ByteArray, T = ⟨t.toArray⟩ := ⟨_, rfl⟩
        obtain rfl : t = T.data.toList := by rw [hT]
        have hstv : strV (T.data.toList, er) = .tuple #[.string T, .int .i64 er] := rfl
        rw [hstv] at c1 c2
        simp only [len_eq] at hjl
        have C1 := Lib.hid c1
        have C2 := Lib.hid c2
        have HSP := Lib.hid hsp
        have hTm : T.size ≤ maxLen := by unfold maxLen; omega
        clear c1 c2 hsp hT hstv h6' HALL
        by_cases her : er = 0
        · subst her
          have hsp := HSP.out rfl
          have c3 := fun W hT => split_any T hTm W hT
          simp only at hsp
          rw [hsp] at c3
          have C3 := Lib.hid c3
          clear hsp c3
          go_wp2_with fail
          refine (C1.out _ HT.out HX.out).mono ?_
          rintro e w1 ⟨rfl, hb1⟩
          have HX1 := Lib.hid ((HX.out.below hb1).more hb1.size)
          have HB1 := Lib.hid hb1
          clear hb1
          go_wp2_with fail
          refine (lawFields_any _ xs _ HX1.out hl).mono ?_
          rintro e w2 ⟨v2, rfl, hown2, hb2⟩
          have HS2 := Lib.hid (SlF.of_own hown2)
          have HX2 := Lib.hid ((HX1.out.below hb2).more hb2.size)
          have HB2 := Lib.hid (HB1.out.trans (hb2.mono HB1.out.size))
          clear hown2 hb2
          go_wp2_with fail
          refine (C2.out v2 _ HS2.out).mono ?_
          rintro e w3 ⟨rfl, hb3⟩
          have HX3 := Lib.hid ((HX2.out.below hb3).more hb3.size)
          have HB3 := Lib.hid (HB2.out.trans (hb3.mono HB2.out.size))
          clear hb3
          go_wp2_with fail
          refine (C3.out _ (HT.out.below HB3.out)).mono ?_
          rintro e w4 ⟨v4, rfl, hown4, hb4⟩
          have HS4 := Lib.hid (SlF.of_own hown4)
          have HX4 := Lib.hid ((HX3.out.below hb4).more hb4.size)
          have HB4 := Lib.hid (HB3.out.trans (hb4.mono HB3.out.size))
          clear hown4 hb4
          go_wp2_with fail
          refine (lawFields_any v4 xs _ HS4.out hl).mono ?_
          rintro e w5 ⟨v5, rfl, hown5, hb5⟩
          have HS5 := Lib.hid (SlF.of_own hown5)
          have HX5 := Lib.hid ((HX4.out.below hb5).more hb5.size)
          have HB5 := Lib.hid (HB4.out.trans (hb5.mono HB4.out.size))
          clear hown5 hb5
          go_wp2_with fail
          refine (lawFields_any _ xs _ HX5.out hl).mono ?_
          rintro e w6 ⟨v6, rfl, hown6, hb6⟩
          have HS6 := Lib.hid (SlF.of_own hown6)
          have HS5b := Lib.hid ((HS5.out.below hb6).more hb6.size)
          have HB6 := Lib.hid (HB5.out.trans (hb6.mono HB5.out.size))
          clear hown6 hb6
          go_wp2_with fail
          refine (alike_any v5 v6 xs xs _ HS5b.out HS6.out hl hl).mono ?_
          rintro e w7 ⟨rfl, hd⟩
          have HB7 := Lib.hid (HB6.out.trans (hd.below.mono HB6.out.size))
          clear hd
          simp only [decide_true]
          go_wp2_with fail
          refine (shown_any _ (HT.out.below HB7.out)).mono ?_
          rintro e w8 ⟨rfl, hb8⟩
          have HB8 := Lib.hid (HB7.out.trans (hb8.mono HB7.out.size))
          clear hb8
          go_wp2_with fail
          go_ret
          exact ⟨rfl, HB8.out⟩
        · have q3 : (er == 0) = false := by simp [her]
          clear her
          go_wp2_with fail
          refine (C1.out _ HT.out HX.out).mono ?_
          rintro e w1 ⟨rfl, hb1⟩
          have HX1 := Lib.hid ((HX.out.below hb1).more hb1.size)
          have HB1 := Lib.hid hb1
          clear hb1
          go_wp2_with fail
          refine (lawFields_any _ xs _ HX1.out hl).mono ?_
          rintro e w2 ⟨v2, rfl, hown2, hb2⟩
          have HS2 := Lib.hid (SlF.of_own hown2)
          have HB2 := Lib.hid (HB1.out.trans (hb2.mono HB1.out.size))
          clear hown2 hb2
          go_wp2_with fail
          refine (C2.out v2 _ HS2.out).mono ?_
          rintro e w3 ⟨rfl, hb3⟩
          have HB3 := Lib.hid (HB2.out.trans (hb3.mono HB2.out.size))
          clear hb3
          go_wp2_with fail
          refine (shown_any _ (HT.out.below HB3.out)).mono ?_
          rintro e w8 ⟨rfl, hb8⟩
          have HB8 := Lib.hid (HB3.out.trans (hb8.mono HB3.out.size))
          clear hb8
          go_wp2_with fail
          go_ret
          exact ⟨rfl, HB8.out⟩
end Go.Proofs.YtdncfignegagjaaDoor
