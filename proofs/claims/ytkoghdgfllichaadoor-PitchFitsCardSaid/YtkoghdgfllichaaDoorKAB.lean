import Derived.Test.YtkoghdgfllichaaDoorKA1
import Derived.Test.YtkoghdgfllichaaDoorRWA
import Derived.Test.YtkoghdgfllichaaDoorShelfB
import Derived.Laws.Externs
import Derived.Lib.SliceRun
import Derived.Laws.CopyOwn
import Derived.StillTailTactics
import Derived.Laws.BitsAllLaws
namespace Go.Proofs.YtkoghdgfllichaaDoor
open Go.RowKit

/-- math/bits.Add64 without a carry coming in. -/
theorem add64_run (x y : Nat) (w : World) : (callFunc 143 #[.int .u64 (x : Int), .int .u64 (y : Int), .int .u64 0]).run Tryd.prog w =
    .ok (.value (.tuple #[.int .u64 (((x + y) % 18446744073709551616 : Nat) : Int), .int .u64 (((x + y) / 18446744073709551616 : Nat) : Int)])) w := by
  rw [run_callFunc_extern Tryd.func143 (by kernel_rfl) (by kernel_rfl) (by kernel_rfl) (e := add64Entry) (by kernel_rfl), run_add64 (x : Int) (y : Int) 0 (by omega) (by omega) (by omega) (by omega)]
  simp only [Result.andThen]
  congr 5 <;> omega
theorem mac_parts {x n o c hi lo l2 m1 d m2 : Nat} (h1 : hi = x * n / 18446744073709551616) (h2 : lo = x * n % 18446744073709551616) (h3 : l2 = (lo + o) % 18446744073709551616) (h4 : m1 = (lo + o) / 18446744073709551616) (h5 : d = (l2 + c) % 18446744073709551616) (h6 : m2 = (l2 + c) / 18446744073709551616) :
    d = (x * n + o + c) % WB ∧ hi + m1 + m2 = (x * n + o + c) / WB := by
  rw [WB_eq]; omega
theorem mid_at {R L : List Nat} {i n k : Nat} (hL : L.length = n) (hin : i + n ≤ R.length) (hk : k < n) : (R.take i ++ L ++ R.drop (i + n))[i + k]? = L[k]? := by
  have h1 : (R.take i).length = i := by rw [List.length_take]; omega
  rw [List.getElem?_append_left (by rw [List.length_append, h1]; omega), List.getElem?_append_right (by omega), h1]
  congr 1; omega
theorem mid_set {R L : List Nat} {i n k d : Nat} (hL : L.length = n) (hin : i + n ≤ R.length) (hk : k < n) : (R.take i ++ L ++ R.drop (i + n)).set (i + k) d = R.take i ++ L.set k d ++ R.drop (i + n) := by
  have h1 : (R.take i).length = i := by rw [List.length_take]; omega
  rw [List.set_append, if_pos (by rw [List.length_append, h1]; omega), List.set_append, if_neg (by omega), h1]
  congr 3; omega
theorem part_w (L : List Nat) (o n k : Nat) (hk : k < n) : ((L.drop o).take n)[k]? = L[o + k]? := by
  rw [List.getElem?_take, if_pos hk, List.getElem?_drop]
def AtW (w : World) (gr i n : Nat) (R X : List Nat) (m : Nat) (cv iv : Value) (wr : World) : Prop :=
  ∃ (k c : Nat) (L : List Nat), k ≤ n ∧ iv = .int .i64 (k : Int) ∧ cv = .int .u64 (c : Int) ∧ MacRel ((R.drop i).take n) X m k c L ∧ RowW wr gr (R.take i ++ L ++ R.drop (i + n)) ∧ w.grownBy wr (some gr) ∧ wr.heap.size = w.heap.size

set_option maxRecDepth 100000 in
set_option maxHeartbeats 2000000 in
theorem addTimesW (gr gx i n ca : Nat) (R X : List Nat) (m : Nat) (w : World) (hr : RowW w gr R) (hR : okW R) (hx : RowW w gx X) (hX : okW X) (hne : gx ≠ gr) (hl : X.length = n) (hin : i + n ≤ R.length) (hm : m < WB) (hn : n ≤ 100000000000000) (hi : i ≤ 100000000000000) :
    Calls Tryd.prog 134 #[.slice (some ⟨gr, i, none⟩) n ca, .slice (some ⟨gx, 0, none⟩) n n, .int .u64 (m : Int)] w fun e w' =>
      ∃ (c : Nat) (M : List Nat), e = .returned (.int .u64 (c : Int)) ∧ MacRel ((R.drop i).take n) X m n c M ∧ RowW w' gr (R.take i ++ M ++ R.drop (i + n)) ∧ w.grownBy w' (some gr) ∧ w'.heap.size = w.heap.size := by
  have hst : MacRel ((R.drop i).take n) X m 0 0 ((R.drop i).take n) := MacRel.start _ _ _ (okW_take (okW_drop hR i) n)
  have hwhole : R.take i ++ (R.drop i).take n ++ R.drop (i + n) = R := by
    rw [List.append_assoc, ← List.drop_drop, List.take_append_drop, List.take_append_drop]
  have hst2 : RowW w gr (R.take i ++ (R.drop i).take n ++ R.drop (i + n)) := by rw [hwhole]; exact hr
  have HST := Lib.hid hst
  have HST2 := Lib.hid hst2
  have HX := Lib.hid hx
  have HXO := Lib.hid hX
  have HRO := Lib.hid hR
  have HM := Lib.hid hm
  have HL := Lib.hid hl
  have HNE := Lib.hid hne
  clear hst hst2 hwhole hr hR hx hX hne hl hm
  go_enter Tryd.func134, Tryd.ntmps134
  go_wp2_with fail
  go_loopw [7, 15] (fun cv iv wr => AtW w gr i n R X m cv iv wr) (fun _ iv _ => n - (intOf iv).toNat)
  case atStart => exact ⟨0, 0, _, Nat.zero_le _, rfl, rfl, HST.out, HST2.out, grownBy_refl _ _, rfl⟩
  case round =>
    obtain ⟨k, c, L, hk, rfl, rfl, hmac, hrow, hgr, hz⟩ := hrel
    have hLl : L.length = n := by rw [hmac.1, List.length_take, List.length_drop]; omega
    by_cases hlt : k < n
    · obtain ⟨x, hxk⟩ : ∃ x, X[k]? = some x := ⟨X[k]'(by rw [HL.out]; exact hlt), List.getElem?_eq_getElem _⟩
      obtain ⟨o, hok⟩ : ∃ o, R[i + k]? = some o := ⟨R[i + k]'(by omega), List.getElem?_eq_getElem _⟩
      obtain ⟨hLk, hnext⟩ := hmac.step HXO.out HM.out hxk (by rw [part_w R i n k hlt]; exact hok)
      have hxW : x < 18446744073709551616 := wlt HXO.out hxk
      have hoW : o < 18446744073709551616 := wlt HRO.out hok
      have hcW : c < 18446744073709551616 := hmac.2.2.1
      have hmW : m < 18446744073709551616 := HM.out
      have c0 := (HX.out.grown hgr HNE.out).cell hxk
      have d0 := hrow.cell (i := i + k) (x := o) (by rw [mid_at hLl hin hlt]; exact hLk)
      have f0 := hrow.frozen (i + k)
      obtain ⟨hi', hhi⟩ : ∃ v, v = x * m / 18446744073709551616 := ⟨_, rfl⟩
      obtain ⟨lo, hlo⟩ : ∃ v, v = x * m % 18446744073709551616 := ⟨_, rfl⟩
      obtain ⟨l2, hl2⟩ : ∃ v, v = (lo + o) % 18446744073709551616 := ⟨_, rfl⟩
      obtain ⟨m1, hm1⟩ : ∃ v, v = (lo + o) / 18446744073709551616 := ⟨_, rfl⟩
      obtain ⟨d, hd⟩ : ∃ v, v = (l2 + c) % 18446744073709551616 := ⟨_, rfl⟩
      obtain ⟨m2, hm2⟩ : ∃ v, v = (l2 + c) / 18446744073709551616 := ⟨_, rfl⟩
      have hmul := fun W => Tryd.bits_Mul64 x m hxW hmW W
      have ha1 := fun W => add64_run lo o W
      have ha2 := fun W => add64_run l2 c W
      rw [← hhi, ← hlo] at hmul
      rw [← hl2, ← hm1] at ha1
      rw [← hd, ← hm2] at ha2
      obtain ⟨e1, e2⟩ := mac_parts hhi hlo hl2 hm1 hd hm2
      have hq : hi' + m1 + m2 < 18446744073709551616 := by rw [e2]; exact mac_word hxW hmW hoW hcW
      rw [← e1, ← e2] at hnext
      have w1 : IntKind.u64.wrap ((hi' : Int) + (m1 : Int)) = ((hi' + m1 : Nat) : Int) := by rw [IntKind.wrap_u64]; omega
      have w2 : IntKind.u64.wrap (((hi' + m1 : Nat) : Int) + (m2 : Int)) = ((hi' + m1 + m2 : Nat) : Int) := by rw [IntKind.wrap_u64]; omega
      have HMUL := Lib.hid hmul
      have HNX := Lib.hid hnext
      have HROW := Lib.hid hrow
      have HGR := Lib.hid hgr
      have HZ := Lib.hid hz
      have hkI : (k : Int) < (n : Int) := by omega
      have hbnd : i + k ≤ 200000000000000 := by omega
      clear hmul hnext hrow hgr hz hmac hxk hok hLk hhi hlo hl2 hm1 hd hm2 e1 e2 hxW hoW hcW hmW
      go_wp2_with fail
      refine (HMUL.out _).mono ?_
      rintro e w2' ⟨he, rfl⟩
      subst he
      go_wp2_with fail
      refine ⟨⟨k + 1, hi' + m1 + m2, L.set k d, by omega, by go_num, by rw [Int.natCast_add, Int.natCast_add], HNX.out, ?_, grownBy_set HGR.out _ _, by simp [World.setCell]; exact HZ.out⟩, by simp [intOf]; omega⟩
      have h := HROW.out.set (i + k) d
      rw [mid_set hLl hin hlt] at h
      exact h
    · obtain rfl : k = n := by omega
      go_wp2_with fail
      go_ret
      exact ⟨c, L, rfl, hmac, hrow, hgr, hz⟩
end Go.Proofs.YtkoghdgfllichaaDoor
namespace Go.Proofs.YtkoghdgfllichaaDoor
open Go.RowKit

theorem setCells_row {g : Nat} : ∀ (vs L : List Nat) (o : Nat) (w : World), RowW w g L → o + vs.length ≤ L.length → RowW (w.setCells g o (vs.map u64w)) g (L.take o ++ vs ++ L.drop (o + vs.length)) ∧ w.grownBy (w.setCells g o (vs.map u64w)) (some g) ∧ (w.setCells g o (vs.map u64w)).heap.size = w.heap.size
  | [], L, o, w, h, _ => by
    rw [List.append_nil, List.length_nil, Nat.add_zero, List.take_append_drop]
    exact ⟨h, grownBy_refl _ _, rfl⟩
  | x :: r, L, o, w, h, hl => by
    rw [List.length_cons] at hl
    obtain ⟨h1, h2, h3⟩ := setCells_row r (L.set o x) (o + 1) (w.setCell ⟨g, o, none⟩ (u64w x)) (h.set o x) (by rw [List.length_set]; omega)
    have e : (L.set o x).take (o + 1) ++ r ++ (L.set o x).drop (o + 1 + r.length) = L.take o ++ (x :: r) ++ L.drop (o + (x :: r).length) := by
      rw [List.take_add_one, List.getElem?_set_self (by omega), List.take_set, List.set_eq_of_length_le (by rw [List.length_take]; omega), List.drop_set, if_pos (by omega), List.length_cons]
      rw [show o + 1 + r.length = o + (r.length + 1) by omega]
      simp
    rw [e] at h1
    refine ⟨h1, grownBy_trans (grownBy_set (grownBy_refl _ _) _ _) h2, by rw [show (w.setCells g o ((x :: r).map u64w)) = ((w.setCell ⟨g, o, none⟩ (u64w x)).setCells g (o + 1) (r.map u64w)) from rfl, h3]; simp [World.setCell]⟩
/-- clear of a whole row. -/
theorem clearW (w : World) (g n : Nat) (R : List Nat) (hr : RowW w g R) (hl : R.length = n) (hn : 0 < n) : ∃ w', (∀ ty, (Builtin.clear_ #[146] ty #[.slice (some ⟨g, 0, none⟩) n n]).run Tryd.prog w = .ok (.tuple #[]) w') ∧
    RowW w' g (List.replicate n 0) ∧ w.grownBy w' (some g) ∧ w'.heap.size = w.heap.size := by
  obtain ⟨h1, h2, h3⟩ := setCells_row (g := g) (List.replicate n 0) R 0 w hr (by simp; omega)
  rw [List.map_replicate] at h1 h2 h3
  refine ⟨_, fun ty => Lib.run_clear_slice w 146 145 ty (.int .u64 0) Tryd.underlying146 Tryd.zeroValue145 rfl rfl g 0 n n hn (fun j hj => ?_) (fun j _ => hr.frozen _), ?_, h2, h3⟩
  · have hj' : j < R.length := by omega
    rw [Nat.zero_add, hr.cell (List.getElem?_eq_getElem hj')]; rfl
  · have e : List.take 0 R ++ List.replicate n 0 ++ List.drop (0 + (List.replicate n 0).length) R = List.replicate n 0 := by simp [hl]
    rw [e] at h1
    exact h1
theorem one_u64 (l : List Nat) : ∀ v ∈ l.map u64w, v.oneCell' = true := by
  intro v hv
  obtain ⟨x, _, rfl⟩ := List.mem_map.1 hv
  rfl
/-- copy of one row's upper half over another row. -/
theorem copyW (w : World) (gx gr n o dl dc sc : Nat) (X R : List Nat) (hx : RowW w gx X) (hr : RowW w gr R) (hl : X.length = n) (hR : o + n = R.length) (hn : 0 < n) (hd : dl = n) :
    ∃ w', (Builtin.copy_ #[146, 146] 3 #[.slice (some ⟨gx, 0, none⟩) dl dc, .slice (some ⟨gr, o, none⟩) n sc]).run Tryd.prog w = .ok (.int .i64 (n : Int)) w' ∧ RowW w' gx (R.drop o) ∧ w.grownBy w' (some gx) ∧ w'.heap.size = w.heap.size := by
  have hdl : (R.drop o).length = n := by rw [List.length_drop]; omega
  have h := run_copy_row (P := Tryd.prog) w 146 146 3 145 gx 0 dl dc ⟨gr, o, none⟩ n sc (X.map u64w).toArray 145 ((R.drop o).map u64w) Tryd.underlying146 Tryd.sizeW hx
    (by rw [List.length_map, hdl, hd]; exact (Nat.min_self n).symm) (fun j v hv => by
      rw [List.getElem?_map] at hv
      obtain ⟨y, hy, rfl⟩ := Option.map_eq_some_iff.1 hv
      rw [List.getElem?_drop] at hy
      have e : (⟨gr, o, none⟩ : Addr).add j = ⟨gr, o + j, none⟩ := by
        unfold Addr.add; by_cases h : j = 0 <;> simp [h]
      rw [e]; exact hr.cell hy) (by simp [hl]; omega) (one_u64 _)
  have e : (((X.map u64w).toArray).toList.take 0 ++ (R.drop o).map u64w ++ ((X.map u64w).toArray).toList.drop (0 + ((R.drop o).map u64w).length)).toArray = ((R.drop o).map u64w).toArray := by
    simp [hl]; omega
  rw [e, List.length_map, hdl] at h
  exact ⟨_, h, setRow_heap w gx _ _ 145 _ hx, ⟨rfl, rfl, rfl, by simp [World.setRow], fun k _ hne => setRow_other w gx k _ (by rintro rfl; exact hne rfl)⟩, by simp [World.setRow]⟩
theorem or_shl {r p : Nat} (hp : p < WB) : bits .or .u64 (IntKind.u64.wrap ((r : Int) * 2)) ((p : Int) / 9223372036854775808) = ((2 * r % WB + p / 9223372036854775808 : Nat) : Int) := by
  rw [WB_eq] at *
  have e1 : IntKind.u64.wrap ((r : Int) * 2) = ((2 * r % 18446744073709551616 : Nat) : Int) := by rw [IntKind.wrap_u64]; omega
  have e2 : (p : Int) / 9223372036854775808 = ((p / 9223372036854775808 : Nat) : Int) := by omega
  rw [e1, e2, u64_or_nat _ _ (by omega) (by omega), nat_join 1 _ _ (by omega) (by omega)]
def SqW (w : World) (gr n : Nat) (X : List Nat) (iv : Value) (wr : World) : Prop :=
  ∃ (k : Nat) (R : List Nat), k ≤ n ∧ iv = .int .i64 (k : Int) ∧ SqRel X k R ∧ RowW wr gr R ∧ w.grownBy wr (some gr) ∧ wr.heap.size = w.heap.size
def ShW (w : World) (gx n : Nat) (R : List Nat) (iv : Value) (wr : World) : Prop :=
  ∃ (k : Nat) (X : List Nat), k ≤ n ∧ iv = .int .i64 (k : Int) ∧ ShRel R n k X ∧ RowW wr gx X ∧ w.grownBy wr (some gx) ∧ wr.heap.size = w.heap.size
/-- The two blocks may have changed, nothing else. -/
structure Two (a b : Nat) (w w' : World) : Prop where
  os : w'.os = w.os
  tape : w'.tape = w.tape
  output : w'.output = w.output
  size : w'.heap.size = w.heap.size
  block : ∀ k, k ≠ a → k ≠ b → w'.heap[k]? = w.heap[k]?
theorem Two.of_left {a b : Nat} {w w' : World} (h : w.grownBy w' (some a)) (hz : w'.heap.size = w.heap.size) : Two a b w w' :=
  ⟨h.os, h.tape, h.output, hz, fun k h1 _ => by
    rcases Nat.lt_or_ge k w.heap.size with hk | hk
    · exact h.block k hk (fun e => h1 (by cases e; rfl))
    · rw [Array.getElem?_eq_none (by omega), Array.getElem?_eq_none (by omega)]⟩
theorem Two.of_right {a b : Nat} {w w' : World} (h : w.grownBy w' (some b)) (hz : w'.heap.size = w.heap.size) : Two a b w w' :=
  ⟨h.os, h.tape, h.output, hz, fun k _ h2 => by
    rcases Nat.lt_or_ge k w.heap.size with hk | hk
    · exact h.block k hk (fun e => h2 (by cases e; rfl))
    · rw [Array.getElem?_eq_none (by omega), Array.getElem?_eq_none (by omega)]⟩
theorem Two.trans {a b : Nat} {w w1 w2 : World} (h : Two a b w w1) (h' : Two a b w1 w2) : Two a b w w2 :=
  ⟨h'.os.trans h.os, h'.tape.trans h.tape, h'.output.trans h.output, h'.size.trans h.size, fun k h1 h2 => (h'.block k h1 h2).trans (h.block k h1 h2)⟩
theorem Two.below {a b B : Nat} {w0 w w' : World} (h0 : Below B w0 w) (h : Two a b w w') (ha : B ≤ a) (hb : B ≤ b) : Below B w0 w' where
  os := h.os.trans h0.os
  tape := h.tape.trans h0.tape
  output := h.output.trans h0.output
  size := by rw [h.size]; exact h0.size
  block := fun k hk => (h.block k (by omega) (by omega)).trans (h0.block k hk)

set_option maxRecDepth 100000 in
set_option maxHeartbeats 2000000 in
theorem squareW (gr gx n : Nat) (R X : List Nat) (w : World) (hr : RowW w gr R) (hx : RowW w gx X) (hX : okW X) (hne : gx ≠ gr) (hl : X.length = n) (hRl : R.length = 2 * n) (hn : 1 ≤ n) (hn2 : n ≤ 20000000000000) :
    Calls Tryd.prog 112 #[.slice (some ⟨gx, 0, none⟩) n n, .slice (some ⟨gr, 0, none⟩) (2 * n) (2 * n)] w fun e w' =>
      ∃ X' R' : List Nat, e = .returned (.bool (sqB (2 ^ (64 * n - 1)) (wv X))) ∧ RowW w' gx X' ∧ okW X' ∧ X'.length = n ∧ wv X' = sqM (2 ^ (64 * n - 1)) (wv X) ∧ RowW w' gr R' ∧ R'.length = 2 * n ∧ Two gx gr w w' := by
  obtain ⟨w1, hcl, hr1, hg1, hz1⟩ := clearW w gr (2 * n) R hr hRl (by omega)
  have hx1 := hx.grown hg1 hne
  have hsq : SqRel X 0 (List.replicate (2 * n) 0) := by rw [← hl]; exact SqRel.start X
  have HSQ := Lib.hid hsq
  have HR1 := Lib.hid hr1
  have HX1 := Lib.hid hx1
  have HXO := Lib.hid hX
  have HL := Lib.hid hl
  have HNE := Lib.hid hne
  have HT1 := Lib.hid (Two.of_right (a := gx) hg1 hz1)
  clear hsq hr1 hx1 hX hl hne hg1 hr hx hRl
  go_enter Tryd.func112, Tryd.ntmps112
  go_wp2_with fail
  go_loopw [14] (fun iv wr => SqW w1 gr n X iv wr) (fun iv _ => n - (intOf iv).toNat)
  case atStart => exact ⟨0, _, Nat.zero_le _, rfl, HSQ.out, HR1.out, grownBy_refl _ _, rfl⟩
  case round =>
    obtain ⟨k, R2, hk, rfl, hsq, hrow, hgr, hz⟩ := hrel
    have hRl2 : R2.length = 2 * n := by rw [hsq.1, HL.out]
    by_cases hlt : k < n
    · obtain ⟨wd, hwd⟩ : ∃ x, X[k]? = some x := ⟨X[k]'(by rw [HL.out]; exact hlt), List.getElem?_eq_getElem _⟩
      have hxr := HX1.out.grown hgr HNE.out
      have c0 := hxr.cell hwd
      have hcall := fun ca => addTimesW gr gx k n ca R2 X wd wr hrow hsq.2.1 hxr HXO.out HNE.out HL.out (by omega) (wlt HXO.out hwd) (by omega) (by omega)
      have hstep := fun c M hm => hsq.step (k := k) (c := c) (M := M) hwd (by rw [HL.out]; exact hm)
      have hok := hsq.2.1
      have HCALL := Lib.hid hcall
      have HSTEP := Lib.hid hstep
      have HGR := Lib.hid hgr
      have HZ := Lib.hid hz
      have HRL := Lib.hid hRl2
      have hkI : (k : Int) < (n : Int) := by omega
      clear hcall hstep hgr hz hsq hrow hxr hwd hok hRl2
      go_wp2_with fail
      refine (HCALL.out _).mono ?_
      rintro e w3 ⟨c, M, he, hmac, hrow3, hgr3, hz3⟩
      subst he
      have hMl : M.length = n := by rw [hmac.1, List.length_take, List.length_drop, HRL.out]; omega
      have hst := HSTEP.out c M hmac
      rw [HL.out] at hst
      have hl3 : (R2.take k ++ M ++ R2.drop (k + n)).length = 2 * n := by
        rw [List.length_append, List.length_append, List.length_take, List.length_drop, HRL.out, hMl]; omega
      obtain ⟨z, hzz⟩ : ∃ z, (R2.take k ++ M ++ R2.drop (k + n))[k + n]? = some z := ⟨_, List.getElem?_eq_getElem (by omega)⟩
      have d0 := hrow3.cell hzz
      have f0 := hrow3.frozen (k + n)
      have HST := Lib.hid hst
      have HR3 := Lib.hid (hrow3.set (k + n) c)
      have HG3 := Lib.hid (grownBy_trans HGR.out hgr3)
      have HZ3 := Lib.hid (hz3.trans HZ.out)
      clear hst hrow3 hgr3 hz3 hzz hl3 hMl hmac
      go_wp2_with fail
      exact ⟨⟨k + 1, _, by omega, by go_num, HST.out, HR3.out, grownBy_set HG3.out _ _, by simp [World.setCell]; exact HZ3.out⟩, by simp [intOf]; omega⟩
    · obtain rfl : k = n := by omega
      have hv : wv R2 = wv X * wv X := SqRel.done (by rw [HL.out]; exact hsq)
      have hok := hsq.2.1
      obtain ⟨tw, htw⟩ : ∃ t, R2[2 * k - 1]? = some t := ⟨R2[2 * k - 1]'(by omega), List.getElem?_eq_getElem _⟩
      have c1 := hrow.cell htw
      have htW := wlt hok htw
      obtain ⟨hb1, hb2⟩ := sq_big hn HL.out hRl2 hok hv htw
      have hxr := HX1.out.grown hgr HNE.out
      have hsm := fun X' h => sq_small (X := X') hn HL.out hRl2 hok hv htw h
      have HV := Lib.hid hv
      have HOK := Lib.hid hok
      have HROW := Lib.hid hrow
      have HXR := Lib.hid hxr
      have HB1 := Lib.hid hb1
      have HB2 := Lib.hid hb2
      have HSM := Lib.hid hsm
      have HTW2 := Lib.hid (HT1.out.trans (Two.of_right (a := gx) hgr hz))
      have HRL := Lib.hid hRl2
      have HTT := Lib.hid htw
      clear hv hok hrow hxr hb1 hb2 hsm hgr hz hsq hRl2 htw hlt hk
      by_cases hbig : 9223372036854775808 ≤ tw
      · have q1 : ((tw : Int) / 9223372036854775808 == 1) = true := by
          have : (tw : Int) / 9223372036854775808 = 1 := by omega
          rw [this]; rfl
        have hsb := HB1.out.1 hbig
        have hsm := HB2.out hbig
        obtain ⟨w5, hcp, hr5, hg5, hz5⟩ := copyW wr gx gr k k k k (2 * k - k) X R2 HXR.out HROW.out HL.out (by have := HRL.out; omega) hn rfl
        have hcp2 : (Builtin.copy_ #[146, 146] 3 #[.slice (some ⟨gx, 0, none⟩) k k, .slice (some ⟨gr, k, none⟩) (2 * k - k) (2 * k - k)]).run Tryd.prog wr = .ok (.int .i64 (k : Int)) w5 := by
          have e : (Value.slice (some ⟨gr, k, none⟩) (2 * k - k) (2 * k - k)) = .slice (some ⟨gr, k, none⟩) k (2 * k - k) := by congr 1; omega
          rw [e]; exact hcp
        have HSB := Lib.hid hsb
        have HS2 := Lib.hid hsm
        have HR5 := Lib.hid hr5
        have HR6 := Lib.hid (HROW.out.grown hg5 HNE.out.symm)
        have HT5 := Lib.hid (HTW2.out.trans (Two.of_left (b := gr) hg5 hz5))
        clear hbig hsb hsm hr5 hg5 hz5 hcp
        go_wp2_with fail
        go_ret
        refine ⟨R2.drop k, R2, ret_bool HSB.out.symm, HR5.out, okW_drop HOK.out k, by rw [List.length_drop, HRL.out]; omega, HS2.out, HR6.out, HRL.out, HT5.out⟩
      · have q1 : ((tw : Int) / 9223372036854775808 == 1) = false := beq_false_of_ne (by omega)
        have htl : tw < 9223372036854775808 := by omega
        have HTL := Lib.hid htl
        have hst := ShRel.start (R := R2) HL.out HXO.out
        have HST := Lib.hid hst
        clear hbig htl hst
        go_wp2_with fail
        go_loopw [49] (fun iv wr2 => ShW wr gx k R2 iv wr2) (fun iv _ => k - (intOf iv).toNat)
        case atStart => exact ⟨0, X, Nat.zero_le _, rfl, HST.out, HXR.out, grownBy_refl _ _, rfl⟩
        case round =>
          obtain ⟨i, X', hi, rfl, hsh, hrx, hgr, hz⟩ := hrel
          by_cases hlt : i < k
          · obtain ⟨r, hr⟩ : ∃ r, R2[k + i]? = some r := ⟨R2[k + i]'(by have := HRL.out; omega), List.getElem?_eq_getElem _⟩
            obtain ⟨j, hj⟩ : ∃ j, k + i = j + 1 := ⟨k + i - 1, by omega⟩
            have hj2 : k + i - 1 = j := by omega
            obtain ⟨p, hp⟩ : ∃ p, R2[j]? = some p := ⟨R2[j]'(by have := HRL.out; omega), List.getElem?_eq_getElem _⟩
            obtain ⟨z, hz2⟩ : ∃ z, X'[i]? = some z := ⟨X'[i]'(by have := hsh.1; omega), List.getElem?_eq_getElem _⟩
            have hrr := HROW.out.grown hgr HNE.out.symm
            have c2 := hrr.cell hr
            have c3 := hrr.cell hp
            have c4 := hrx.cell hz2
            have f4 := hrx.frozen i
            have hrW := wlt HOK.out hr
            have hpW := wlt HOK.out hp
            obtain ⟨b1, b2⟩ := shl_word hrW hpW
            have hnx := hsh.step hlt HOK.out hr (by rw [hj2]; exact hp)
            have HNX := Lib.hid hnx
            have HRX := Lib.hid hrx
            have HGR := Lib.hid hgr
            have HZ := Lib.hid hz
            have hiI : (i : Int) < (k : Int) := by omega
            clear hnx hrx hgr hz hr hp hz2 hrr hsh
            have s1 : IntKind.i64.wrap ((k : Int) + (i : Int)) = (k : Int) + (i : Int) := IntWalk.i64_in _ (by omega)
            have s2 : (k : Int) + (i : Int) - 1 = (j : Int) := by omega
            have s2' : IntKind.i64.wrap (j : Int) = (j : Int) := IntWalk.i64_in _ (by omega)
            have s3 : (0 : Int) ≤ (k : Int) + (i : Int) := by omega
            have s4 : (k : Int) + (i : Int) < ((2 * k : Nat) : Int) := by omega
            have s4' : (k : Int) + (i : Int) < 2 * (k : Int) := by omega
            have s5 : ((k : Int) + (i : Int)).toNat = k + i := by omega
            have s6 : (0 : Int) ≤ (j : Int) := Int.natCast_nonneg _
            have s7 : (j : Int) < ((2 * k : Nat) : Int) := by omega
            have s7' : (j : Int) < 2 * (k : Int) := by omega
            clear hj hj2
            have s9 : (0 : Int) ≤ (i : Int) := Int.natCast_nonneg _
            go_wp2
            go_still_tail 19, (by kernel_rfl)
            change wpList _ _ _ _ _ wr.drew
            have hrx2 : RowW wr.drew gx X' := HRX.out
            have f5 := hrx2.frozen i
            have d4 : wr.drew.cell? ⟨gx, i, none⟩ = some (.int .u64 (z : Int)) := c4
            have H3 := Lib.hid (hrx2.set i (2 * r % WB + p / 9223372036854775808))
            have HG2 := Lib.hid (grownBy_trans HGR.out (grownBy_drewN wr (some gx) 1))
            have HZ2 : Hid (wr.drew.heap.size = _) := Lib.hid HZ.out
            have HG2 : Hid (World.grownBy _ wr.drew (some gx)) := HG2
            clear c2 c3 c4 f4 hrx2
            generalize wr.drew = w2 at *
            go_wp2
            rw [or_shl hpW]
            exact ⟨⟨i + 1, _, by omega, by go_num, HNX.out, H3.out, grownBy_set HG2.out _ _, by simp [World.setCell]; exact HZ2.out⟩, by simp [intOf]; omega⟩
          · obtain rfl : i = k := by omega
            have hfs : sqB (2 ^ (64 * i - 1)) (wv X) = false := by
              cases hs : sqB (2 ^ (64 * i - 1)) (wv X)
              · rfl
              · have := HB1.out.2 hs; have := HTL.out; omega
            have HFS := Lib.hid hfs
            have HRR := Lib.hid (HROW.out.grown hgr HNE.out.symm)
            have HTT2 := Lib.hid (HTW2.out.trans (Two.of_left (b := gr) hgr hz))
            have HV2 := Lib.hid (HSM.out X' HTL.out hsh)
            have HSH := Lib.hid hsh
            have HRX := Lib.hid hrx
            clear hfs hsh hrx hgr hz hi hlt
            go_wp2
            go_ret
            exact ⟨X', R2, ret_bool HFS.out.symm, HRX.out, HSH.out.2.1, HSH.out.1, HV2.out, HRR.out, HRL.out, HTT2.out⟩
end Go.Proofs.YtkoghdgfllichaaDoor
