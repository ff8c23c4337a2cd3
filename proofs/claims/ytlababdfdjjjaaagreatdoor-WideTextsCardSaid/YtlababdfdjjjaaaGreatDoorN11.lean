import Derived.Test.YtlababdfdjjjaaaGreatDoorNC
namespace Go.Proofs.YtlababdfdjjjaaaGreatDoor
open Go.RowKit

/-- A number from its highest two or three limbs. -/
theorem two_val {l : List Nat} {j x y : Nat} (ho : okL l) (hl : l.length = j + 2) (hx : l[j]? = some x) (hy : l[j + 1]? = some y) :
    (y * LB + x) * LB ^ j ≤ val l ∧ val l < (y * LB + x + 1) * LB ^ j := by
  have h1 := take_val hx
  have h2 := take_val hy
  rw [List.take_of_length_le (by omega)] at h2
  have h3 := val_lt (okL_take ho j)
  rw [List.length_take, Nat.min_eq_left (by omega)] at h3
  rw [h2, h1, Nat.pow_succ]
  generalize val (l.take j) = t at *
  generalize LB ^ j = K at *
  have e : (y * LB + x + 1) * K = (y * LB + x) * K + K := by rw [Nat.add_mul, Nat.one_mul]
  have e2 : (y * LB + x) * K = K * x + K * LB * y := by grind
  omega
theorem three_val {l : List Nat} {j x y z : Nat} (ho : okL l) (hl : l.length = j + 3) (hx : l[j]? = some x) (hy : l[j + 1]? = some y) (hz : l[j + 2]? = some z) :
    ((y + LB * z) * LB + x) * LB ^ j ≤ val l ∧ val l < ((y + LB * z) * LB + x + 1) * LB ^ j := by
  have h1 := take_val hx
  have h2 := take_val hy
  have h4 := take_val hz
  rw [List.take_of_length_le (by omega)] at h4
  have h3 := val_lt (okL_take ho j)
  rw [List.length_take, Nat.min_eq_left (by omega)] at h3
  have p1 : LB ^ (j + 1) = LB ^ j * LB := Nat.pow_succ ..
  have p2 : LB ^ (j + 2) = LB ^ j * (LB * LB) := by rw [Nat.pow_succ, Nat.pow_succ, Nat.mul_assoc]
  rw [h4, show j + 2 = j + 1 + 1 from rfl, h2, h1, show j + 1 + 1 = j + 2 from rfl, p1, p2]
  generalize val (l.take j) = t at *
  generalize LB ^ j = K at *
  have e : ((y + LB * z) * LB + x + 1) * K = ((y + LB * z) * LB + x) * K + K := by rw [Nat.add_mul, Nat.one_mul]
  have e2 : ((y + LB * z) * LB + x) * K = K * x + K * LB * y + K * (LB * LB) * z := by grind
  omega

/-- What is known while a limb is guessed. -/
structure Guess (a b K high low top next : Nat) : Prop where
  ea : (top * LB + next) * K ≤ a
  ea' : a < (top * LB + next + 1) * K
  eb : (high * LB + low) * K ≤ b
  eb' : b < (high * LB + low + 1) * K
  hh : 2147483648 ≤ high
  hh' : high < LB
  hl : low < LB
  hn : next < LB
  hK : 0 < K
  lt : a < b * LB
theorem Guess.pos {a b K high low top next : Nat} (h : Guess a b K high low top next) : 0 < b := by
  have := h.eb; have h1 := h.hh; have h2 := h.hK
  have : 0 < (high * LB + low) * K := Nat.mul_pos (by rw [LB_eq]; omega) h2
  omega
theorem Guess.quo {a b K high low top next : Nat} (h : Guess a b K high low top next) : a / b < LB := (Nat.div_lt_iff_lt_mul h.pos).2 (by rw [Nat.mul_comm]; exact h.lt)
theorem Guess.top_le {a b K high low top next : Nat} (h : Guess a b K high low top next) : top ≤ high * LB + low := by
  have h1 := h.ea; have h2 := h.eb'; have h3 := h.lt
  have h4 : b * LB < (high * LB + low + 1) * K * LB := Nat.mul_lt_mul_of_pos_right h2 LB_pos
  have h5 : (top * LB + next) * K < (high * LB + low + 1) * LB * K := by
    have : (high * LB + low + 1) * K * LB = (high * LB + low + 1) * LB * K := by rw [Nat.mul_assoc, Nat.mul_comm K, ← Nat.mul_assoc]
    omega
  have h6 := Nat.lt_of_mul_lt_mul_right h5
  have h7 : top * LB < (high * LB + low + 1) * LB := by omega
  have := Nat.lt_of_mul_lt_mul_right h7
  omega
theorem Guess.first {a b K high low top next : Nat} (h : Guess a b K high low top next) : a / b ≤ top / high ∧ top / high ≤ LB + 1 := by
  have hh := h.hh; have hl := h.hl; have ht := h.top_le; have hpos : 0 < high := by omega
  constructor
  · have hlt : a / b < top / high + 1 := by
      refine guess_less (K := K * LB) (a3 := top) (b2 := high) ?_ ?_ h.pos ?_
      · have := h.ea'
        have h1 : top * LB + next + 1 ≤ (top + 1) * LB := by rw [Nat.add_mul]; have := h.hn; omega
        have h2 := Nat.mul_le_mul_right K h1
        have : (top + 1) * LB * K = (top + 1) * (K * LB) := by rw [Nat.mul_assoc, Nat.mul_comm LB]
        omega
      · have := h.eb
        have h2 := Nat.mul_le_mul_right K (Nat.le_add_right (high * LB) low)
        have : high * LB * K = high * (K * LB) := by rw [Nat.mul_assoc, Nat.mul_comm LB]
        omega
      · rw [Nat.mul_comm]; exact Nat.lt_mul_div_succ top hpos
    omega
  · have : top / high < LB + 2 := by
      rw [Nat.div_lt_iff_lt_mul hpos, Nat.add_mul, Nat.mul_comm LB]
      rw [LB_eq] at hl
      omega
    omega
/-- A guess that is seen to be too great. -/
theorem Guess.down {a b K high low top next n rest : Nat} (h : Guess a b K high low top next) (e : n * high + rest = top) (hc : LB ≤ n ∨ rest * LB + next < n * low) : a / b < n := by
  rcases hc with hc | hc
  · exact Nat.lt_of_lt_of_le h.quo hc
  · refine guess_less h.ea' h.eb h.pos ?_
    have := guess_cond (low := low) (next := next) e
    omega
/-- A guess that is not. -/
theorem Guess.done {a b K high low top next n rest : Nat} (h : Guess a b K high low top next) (e : n * high + rest = top) (hc : LB ≤ rest ∨ (n < LB ∧ n * low ≤ rest * LB + next)) : n < LB ∧ n ≤ a / b + 1 := by
  have hnLB : n < LB ∧ n * low ≤ rest * LB + next := by
    rcases hc with hc | hc
    · have h1 : n < LB := by
        rcases Nat.lt_or_ge n LB with h1 | h1
        · exact h1
        · have h2 := Nat.mul_le_mul_right high h1
          have := h.top_le; have := h.hl
          rw [Nat.mul_comm LB] at h2
          omega
      refine ⟨h1, ?_⟩
      have h2 : n * low ≤ LB * LB := Nat.mul_le_mul (by omega) (by have := h.hl; omega)
      have h3 := Nat.mul_le_mul_right LB hc
      omega
    · exact hc
  refine ⟨hnLB.1, guess_near h.ea h.eb' ?_ h.pos ((guess_cond e).2 hnLB.2) hnLB.1⟩
  have h1 := h.eb; have h2 := h.hh
  have h3 : LB ≤ high * LB + low := by
    have := Nat.mul_le_mul_right LB (show 1 ≤ high by omega)
    omega
  exact Nat.le_trans (Nat.mul_le_mul_right K h3) h1

def GuRel (w : World) (q high top : Nat) (vn vr : Value) (wr : World) : Prop :=
  ∃ n rest : Nat, vn = .int .u64 n ∧ vr = .int .u64 rest ∧ n * high + rest = top ∧ q ≤ n ∧ n ≤ LB + 1 ∧ rest < 2 * LB ∧ Drawn w wr

set_option maxRecDepth 100000 in
set_option maxHeartbeats 4000000 in
theorem guess_any (B g o cap : Nat) (L b : List Nat) (vb : Value) (w : World) (hr : Row w g L) (hL : okL L) (hb : Lim w B vb b) (hk : 2 ≤ b.length) (hon : o + (b.length + 1) ≤ L.length) (hLen : L.length ≤ 1000000000)
    (htop : ∃ x, b[b.length - 1]? = some x ∧ 2147483648 ≤ x) (hlt : val ((L.drop o).take (b.length + 1)) < val b * LB) :
    Calls Tryz.prog 152 #[.slice (some ⟨g, o, none⟩) (b.length + 1) cap, vb] w fun e w' => ∃ n : Nat, e = .returned (.int .u32 n) ∧
      n < LB ∧ val ((L.drop o).take (b.length + 1)) / val b ≤ n ∧ n ≤ val ((L.drop o).take (b.length + 1)) / val b + 1 ∧ Drawn w w' := by
  obtain ⟨A, capb, rfl, hcapb⟩ := hb.form
  obtain ⟨j, hj⟩ : ∃ j, b.length = j + 2 := ⟨b.length - 2, by omega⟩
  obtain ⟨high, hhigh, hh⟩ := htop
  obtain ⟨low, hlow⟩ : ∃ x, b[j]? = some x := ⟨b[j]'(by omega), List.getElem?_eq_getElem (by omega)⟩
  obtain ⟨x1, hx1⟩ : ∃ x, L[o + (j + 2)]? = some x := ⟨L[o + (j + 2)]'(by omega), List.getElem?_eq_getElem (by omega)⟩
  obtain ⟨x0, hx0⟩ : ∃ x, L[o + (j + 1)]? = some x := ⟨L[o + (j + 1)]'(by omega), List.getElem?_eq_getElem (by omega)⟩
  obtain ⟨next, hnext⟩ : ∃ x, L[o + j]? = some x := ⟨L[o + j]'(by omega), List.getElem?_eq_getElem (by omega)⟩
  rw [hj, show j + 2 - 1 = j + 1 by omega] at hhigh
  obtain ⟨gb, ob, rfl, hgb, c1⟩ := hb.cell hhigh
  obtain ⟨gb', ob', e', -, c2⟩ := hb.cell hlow
  cases e'
  have d1 := hr.cell hx1
  have d2 := hr.cell hx0
  have d3 := hr.cell hnext
  have ho := hb.2
  have hpl : okL ((L.drop o).take (b.length + 1)) := okL_take (okL_drop hL o) _
  have v2 := two_val ho hj hlow hhigh
  have v3 := three_val (l := (L.drop o).take (b.length + 1)) (j := j) (x := next) (y := x0) (z := x1) hpl (by rw [List.length_take, List.length_drop]; omega) (by rw [part_at _ _ _ _ (by omega)]; exact hnext) (by rw [part_at _ _ _ _ (by omega)]; exact hx0) (by rw [part_at _ _ _ _ (by omega)]; exact hx1)
  have b1 : high < 4294967296 := Lim.lt ho hhigh
  have b2 : low < 4294967296 := Lim.lt ho hlow
  have b3 : x1 < 4294967296 := Lim.lt hL hx1
  have b4 : x0 < 4294967296 := Lim.lt hL hx0
  have b5 : next < 4294967296 := Lim.lt hL hnext
  have hG : Guess (val ((L.drop o).take (b.length + 1))) (val b) (LB ^ j) high low (x0 + LB * x1) next := ⟨v3.1, v3.2, v2.1, v2.2, hh, b1, b2, b5, pow_pos' j, hlt⟩
  have hG1 := hG.first
  have hDN := fun n rest => @Guess.down _ _ _ _ _ _ _ n rest hG
  have hDO := fun n rest => @Guess.done _ _ _ _ _ _ _ n rest hG
  generalize val ((L.drop o).take (b.length + 1)) = a at *
  generalize val b = bb at *
  obtain ⟨top, htop, ht64⟩ : ∃ top, top = x0 + LB * x1 ∧ top < 18446744073709551616 := ⟨_, rfl, by rw [LB_eq]; omega⟩
  rw [← htop] at hG1 hDN hDO
  generalize a / bb = q at *
  have hor := or64_join' (V := x0) (x := x1) b4 b3
  rw [← htop] at hor
  rw [hj]
  have HDN := Lib.hid hDN
  have HDO := Lib.hid hDO
  have HG1 := Lib.hid hG1
  have HOR := Lib.hid hor
  have HT := Lib.hid ht64
  have hj1 : j < 1000000000 := by omega
  clear hr hL hb v2 v3 hx1 hx0 hnext hhigh hlow ho hpl hlt hG hG1 hDN hDO hor htop ht64
  go_enter Tryz.func152, Tryz.ntmps152
  go_wp2
  go_quiet (fail)
  go_wp2
  go_quiet (fail)
  rw [HOR.out]
  have hpos : 0 < high := by omega
  have hne : ((high : Int) == 0) = false := by simp; omega
  go_wp2
  go_quiet (fail)
  obtain ⟨n0, r0, f1, f2, f3, f4, f5, f6⟩ : ∃ n0 r0 : Nat, IntKind.u64.wrap ((top : Int) / (high : Int)) = (n0 : Int) ∧ (top : Int) % (high : Int) = (r0 : Int) ∧ n0 * high + r0 = top ∧ q ≤ n0 ∧ n0 ≤ LB + 1 ∧ r0 < 2 * LB := by
    refine ⟨top / high, top % high, ?_, by omega, ?_, HG1.out.1, HG1.out.2, ?_⟩
    · rw [← Int.natCast_ediv, wrap_u]; have := HG1.out.2; rw [LB_eq] at this; omega
    · rw [Nat.mul_comm]; exact Nat.div_add_mod top high
    · have := Nat.mod_lt top hpos; rw [LB_eq]; omega
  rw [f1, f2]
  simp only [show j + 2 - 1 = j + 1 from rfl]
  have HF := Lib.hid f3
  have HF4 := Lib.hid f4
  have HF5 := Lib.hid f5
  have HF6 := Lib.hid f6
  clear f1 f2 f3 f4 f5 f6 hne hpos
  go_wp2
  go_loopw [9, 10] (fun n r wr => GuRel w q high top n r wr) (fun n _ _ => (intOf n).toNat)
  case atStart => exact ⟨n0, r0, rfl, rfl, HF.out, HF4.out, HF5.out, HF6.out, drawn_three _ _ _ _⟩
  case round =>
    obtain ⟨n, rest, rfl, rfl, h1, h2, h3, h4, hdr⟩ := hrel
    rw [LB_eq] at h3 h4
    have H1 := Lib.hid h1
    have H2 := Lib.hid h2
    clear h1 h2
    by_cases hr : rest < 4294967296
    · by_cases hn : n < 4294967296
      · obtain ⟨P, hP, e0, hP1⟩ := mul_wrap (x := n) (m := low) hn b2
        obtain ⟨Y, hY, hor⟩ : ∃ Y, Y = next + LB * rest ∧ bits .or .u64 ((rest : Int) * 4294967296) (next : Int) = (Y : Int) := ⟨_, rfl, or64_join' b5 hr⟩
        have HP := Lib.hid hP
        have HY := Lib.hid hY
        clear hP hY hP1
        by_cases hlt : Y < P
        · have hdn := HDN.out _ _ H1.out (.inr (by rw [← HP.out, Nat.mul_comm, Nat.add_comm, ← HY.out]; exact hlt))
          obtain ⟨m, hm⟩ : ∃ m, n = m + 1 := ⟨n - 1, by omega⟩
          have i1 : (n : Int) - 1 = (m : Int) := by omega
          have i2 : IntKind.u64.wrap ((n : Int) - 1) = (m : Int) := by rw [i1]; exact wrap_u (by omega)
          have hm1 : m < 4294967296 := by omega
          have HM := Lib.hid hm
          clear i1 hm
          have HD := Lib.hid hdn
          clear hdn
          go_wp2
          have hfin : m * high + (rest + high) = top ∧ q ≤ m ∧ m ≤ LB + 1 ∧ rest + high < 2 * LB ∧ m < n := by
            have h1 := H1.out
            have h5 := HM.out
            have h6 := HD.out
            rw [h5, Nat.add_mul, Nat.one_mul] at h1
            rw [LB_eq]
            exact ⟨by omega, by omega, by omega, by omega, by omega⟩
          go_roundw
          case rel => exact ⟨m, rest + high, rfl, by first | rfl | go_num, hfin.1, hfin.2.1, hfin.2.2.1, hfin.2.2.2.1, hdr⟩
          case measure => simp [intOf]; exact hfin.2.2.2.2
        · have hdo := HDO.out _ _ H1.out (.inr ⟨hn, by rw [← HP.out, Nat.mul_comm rest, Nat.add_comm, ← HY.out]; omega⟩)
          have HD := Lib.hid hdo
          clear hdo
          go_wp2
          go_ret
          exact ⟨n, rfl, HD.out.1, H2.out, HD.out.2, hdr⟩
      · have hdn := HDN.out _ _ H1.out (.inl (by rw [LB_eq]; omega))
        obtain ⟨m, hm⟩ : ∃ m, n = m + 1 := ⟨n - 1, by omega⟩
        have i1 : (n : Int) - 1 = (m : Int) := by omega
        have i2 : IntKind.u64.wrap ((n : Int) - 1) = (m : Int) := by rw [i1]; exact wrap_u (by omega)
        have hn2 : 4294967296 ≤ n := by omega
        have HD := Lib.hid hdn
        have HM := Lib.hid hm
        clear i1 hm hdn
        go_wp2
        have hfin : m * high + (rest + high) = top ∧ q ≤ m ∧ m ≤ LB + 1 ∧ rest + high < 2 * LB ∧ m < n := by
          have h1 := H1.out
          have h5 := HM.out
          have h6 := HD.out
          rw [h5, Nat.add_mul, Nat.one_mul] at h1
          rw [LB_eq]
          exact ⟨by omega, by omega, by omega, by omega, by omega⟩
        first
          | exact ⟨⟨m, rest + high, rfl, by first | rfl | go_num, hfin.1, hfin.2.1, hfin.2.2.1, hfin.2.2.2.1, hdr⟩, by simp [intOf]; exact hfin.2.2.2.2⟩
          | (go_roundw
             case rel => exact ⟨m, rest + high, rfl, by first | rfl | go_num, hfin.1, hfin.2.1, hfin.2.2.1, hfin.2.2.2.1, hdr⟩
             case measure => simp [intOf]; exact hfin.2.2.2.2)
    · have hdo := HDO.out _ _ H1.out (.inl (by rw [LB_eq]; omega))
      have hn2 : n < 4294967296 := by have := hdo.1; rw [LB_eq] at this; exact this
      have HD := Lib.hid hdo
      clear hdo
      go_wp2
      go_ret
      exact ⟨n, rfl, HD.out.1, H2.out, HD.out.2, hdr⟩
end Go.Proofs.YtlababdfdjjjaaaGreatDoor
