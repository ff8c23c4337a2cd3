import Derived.Test.YtlababdfdjjjaaaGreatDoorNA
import Derived.Laws.BitsAllLaws
import Derived.Deep.Cut
import Derived.Deep.RegionWith
namespace Go.Proofs.YtlababdfdjjjaaaGreatDoor
open Go.RowKit

/-- The row with some limbs from a place on written anew. -/
def upd (L : List Nat) (o : Nat) (r : List Nat) : List Nat := L.take o ++ r ++ L.drop (o + r.length)
theorem upd_nil (L : List Nat) (o : Nat) : upd L o [] = L := by simp [upd]
theorem upd_len (L : List Nat) (o : Nat) (r : List Nat) (h : o + r.length ≤ L.length) : (upd L o r).length = L.length := by simp [upd]; omega
theorem upd_ok {L r : List Nat} (o : Nat) (hL : okL L) (hr : okL r) : okL (upd L o r) := by
  unfold upd
  rw [okL_append, okL_append]
  exact ⟨⟨okL_take hL o, hr⟩, okL_drop hL _⟩
theorem upd_at (L : List Nat) (o : Nat) (r : List Nat) (j : Nat) (h : o + r.length ≤ L.length) (hj : r.length ≤ j) : (upd L o r)[o + j]? = L[o + j]? := by
  unfold upd
  rw [List.getElem?_append_right (by simp; omega), List.getElem?_drop]
  congr 1
  simp; omega
theorem upd_set (L : List Nat) (o : Nat) (r : List Nat) (x : Nat) (h : o + r.length < L.length) : (upd L o r).set (o + r.length) x = upd L o (r ++ [x]) := by
  unfold upd
  have hl : (L.take o ++ r).length = o + r.length := by simp; omega
  rw [List.set_append, if_neg (by omega), hl, Nat.sub_self, List.drop_eq_getElem_cons h, List.set_cons_zero]
  simp [Nat.add_assoc]
theorem part_at (L : List Nat) (o n k : Nat) (hk : k < n) : ((L.drop o).take n)[k]? = L[o + k]? := by
  rw [List.getElem?_take, if_pos hk, List.getElem?_drop]
theorem Lim.grown {w w' : World} {B g : Nat} {v : Value} {l : List Nat} (h : Lim w B v l) (hg : w.grownBy w' (some g)) (hB : B ≤ g) (hBw : B ≤ w.heap.size) : Lim w' B v l := ⟨h.1.grown hg hB hBw, h.2⟩

theorem take_val {l : List Nat} {k x : Nat} (h : l[k]? = some x) : val (l.take (k + 1)) = val (l.take k) + LB ^ k * x := by
  have hk : k < l.length := (List.getElem?_eq_some_iff.1 h).1
  rw [take_snoc' l k x h, val_snoc, List.length_take, Nat.min_eq_left (by omega)]
/-- One limb more of a sum. -/
theorem add_step {A b r : List Nat} {k m cy y x : Nat} (hy : A[k]? = some y) (hx : b[k]? = some x) (hr : r.length = k) (h : val r + cy * LB ^ k = val (A.take k) + m * val (b.take k)) :
    val (r ++ [(x * m + y + cy) % LB]) + (x * m + y + cy) / LB * LB ^ (k + 1) = val (A.take (k + 1)) + m * val (b.take (k + 1)) := by
  rw [val_snoc, hr, take_val hy, take_val hx, Nat.pow_succ]
  have e := Nat.mod_add_div (x * m + y + cy) LB
  generalize (x * m + y + cy) % LB = p at *
  generalize (x * m + y + cy) / LB = q at *
  generalize LB ^ k = z at *
  grind
theorem add_bound {x m y cy : Nat} (hx : x < LB) (hm : m < LB) (hy : y < LB) (hc : cy < LB) : x * m ≤ 18446744065119617025 ∧ (x * m + y + cy) / LB < LB := by
  have h1 : x * m ≤ 4294967295 * 4294967295 := Nat.mul_le_mul (by rw [LB_eq] at hx; omega) (by rw [LB_eq] at hm; omega)
  rw [LB_eq] at *
  omega

theorem wrap_u {n : Nat} (h : n < 18446744073709551616) : IntKind.u64.wrap (n : Int) = (n : Int) := by
  rw [IntKind.wrap_u64]; omega
theorem cast_add (x m y cy : Nat) : (x : Int) * (m : Int) + (y : Int) + (cy : Int) = ((x * m + y + cy : Nat) : Int) := by
  rw [Int.natCast_add, Int.natCast_add, Int.natCast_mul]
theorem div_lb (n : Nat) : (n : Int) / 4294967296 = ((n / LB : Nat) : Int) := by rw [LB_eq]; omega
theorem mod_lb (n : Nat) : (n : Int) % 4294967296 = ((n % LB : Nat) : Int) := by rw [LB_eq]; omega

def AtRel (w : World) (g o : Nat) (L A b : List Nat) (m : Nat) (c i : Value) (wr : World) : Prop :=
  ∃ (k : Nat) (r : List Nat) (cy : Nat), k ≤ b.length ∧ i = .int .i64 k ∧ c = .int .u64 cy ∧ r.length = k ∧ okL r ∧ cy < LB ∧ val r + cy * LB ^ k = val (A.take k) + m * val (b.take k) ∧
    Row wr g (upd L o r) ∧ w.grownBy wr (some g) ∧ wr.heap.size = w.heap.size

theorem add_step2 {A r : List Nat} {k M cy y : Nat} (hy : A[k]? = some y) (hr : r.length = k) (h : val r + cy * LB ^ k = val (A.take k) + M) :
    val (r ++ [(y + cy) % LB]) + (y + cy) / LB * LB ^ (k + 1) = val (A.take (k + 1)) + M := by
  rw [val_snoc, hr, take_val hy, Nat.pow_succ]
  have e := Nat.mod_add_div (y + cy) LB
  generalize (y + cy) % LB = p at *
  generalize (y + cy) / LB = q at *
  generalize LB ^ k = z at *
  grind
theorem part_drop (L : List Nat) (o n k : Nat) : ((L.drop o).take n).drop k = (L.drop (o + k)).take (n - k) := by
  rw [List.drop_take, List.drop_drop]
theorem upd_tail (L : List Nat) (o n : Nat) (r : List Nat) (h : o + n ≤ L.length) (hr : r.length ≤ n) : upd L o (r ++ ((L.drop o).take n).drop r.length) = upd L o r := by
  unfold upd
  have hl : (r ++ ((L.drop o).take n).drop r.length).length = n := by simp; omega
  rw [hl, part_drop, ← List.append_assoc, List.append_assoc _ _ (L.drop (o + n))]
  congr 1
  conv => rhs; rw [← List.take_append_drop (n - r.length) (L.drop (o + r.length))]
  rw [List.drop_drop]
  congr 2; omega
/-- Where the second loop ends. -/
theorem add_end {L r : List Nat} {o n M cy : Nat} (hon : o + n ≤ L.length) (hr : r.length ≤ n) (hc : r.length = n ∨ cy = 0) (h : val r + cy * LB ^ r.length = val (((L.drop o).take n).take r.length) + M) :
    val (r ++ ((L.drop o).take n).drop r.length) + cy * LB ^ n = val ((L.drop o).take n) + M := by
  have hl : ((L.drop o).take n).length = n := by simp; omega
  rw [val_append, val_split ((L.drop o).take n) r.length (by omega)]
  rcases hc with hc | hc
  · rw [hc] at h ⊢
    rw [List.drop_eq_nil_of_le (by omega)]; simp [val] at h ⊢; omega
  · subst hc; omega
theorem carry_lt {y cy : Nat} (hy : y < LB) (hc : cy < LB) : (y + cy) / LB < LB := by rw [LB_eq] at *; omega
theorem cast_add2 (y cy : Nat) : (y : Int) + (cy : Int) = ((y + cy : Nat) : Int) := by omega

def At2Rel (w : World) (g o n : Nat) (L A : List Nat) (M : Nat) (c i : Value) (wr : World) : Prop :=
  ∃ (k : Nat) (r : List Nat) (cy : Nat), k ≤ n ∧ i = .int .i64 k ∧ c = .int .u64 cy ∧ r.length = k ∧ okL r ∧ cy < LB ∧ val r + cy * LB ^ k = val (A.take k) + M ∧
    Row wr g (upd L o r) ∧ w.grownBy wr (some g) ∧ wr.heap.size = w.heap.size

set_option maxRecDepth 100000 in
set_option maxHeartbeats 2000000 in
theorem addTimes_any (B g o n cap : Nat) (L b : List Nat) (vb : Value) (m : Nat) (w : World) (hr : Row w g L) (hL : okL L) (hb : Lim w B vb b) (hB : B ≤ g) (hBw : B ≤ w.heap.size) (hm : m < LB) (hlen : b.length ≤ n) (hon : o + n ≤ L.length) (hLen : L.length ≤ 1000000000) (hcap : n ≤ cap) :
    Calls Tryz.prog 126 #[.slice (some ⟨g, o, none⟩) n cap, vb, .int .u32 (m : Int)] w fun e w' => (∃ v, e = .returned v) ∧
      ∃ r : List Nat, r.length = n ∧ okL r ∧ (∃ cy, val r + cy * LB ^ n = val ((L.drop o).take n) + m * val b) ∧ Row w' g (upd L o r) ∧ w.grownBy w' (some g) ∧ w'.heap.size = w.heap.size := by
  obtain ⟨A, capb, rfl, hcapb⟩ := hb.form
  have HB := Lib.hid hb
  have HL := Lib.hid hL
  have HM := Lib.hid hm
  have hm1 : (m : Int) < 4294967296 := by rw [LB_eq] at hm; omega
  have hm0 : (0 : Int) ≤ (m : Int) := Int.natCast_nonneg _
  have HR := Lib.hid hr
  clear hb hL hr hm
  go_enter Tryz.func126, Tryz.ntmps126
  go_wp2
  go_loopw [6, 13] (fun c i wr => AtRel w g o L ((L.drop o).take n) b m c i wr) (fun _ i _ => b.length - (intOf i).toNat)
  case atStart => exact ⟨0, [], 0, Nat.zero_le _, rfl, rfl, rfl, okL_nil, LB_pos, by simp [val], by rw [upd_nil]; exact HR.out, grownBy_refl _ _, rfl⟩
  case round =>
    obtain ⟨k, r, cy, hk, rfl, rfl, hrl, hro, hcy, hv, hrow, hgr, hz⟩ := hrel
    by_cases hlt : k < b.length
    · obtain ⟨x, hx⟩ : ∃ x, b[k]? = some x := ⟨b[k], List.getElem?_eq_getElem hlt⟩
      obtain ⟨y, hy⟩ : ∃ y, L[o + k]? = some y := ⟨L[o + k]'(by omega), List.getElem?_eq_getElem (by omega)⟩
      obtain ⟨g', o', rfl, hg', c0⟩ := (HB.out.grown hgr hB hBw).cell hx
      have d0 := hrow.cell (i := o + k) (x := y) (by rw [upd_at L o r k (by omega) (by omega), hy])
      have f0 := hrow.frozen (o + k)
      have hx1 := Lim.lt HB.out.2 hx
      have hy1 := Lim.lt HL.out hy
      have hbd := add_bound (x := x) (y := y) hx1 HM.out hy1 hcy
      go_wp2
      go_quiet (fail)
      go_wp2
      rw [cast_add, wrap_u (by rw [LB_eq] at hcy; omega), div_lb, mod_lb]
      refine ⟨⟨k + 1, r ++ [(x * m + y + cy) % LB], (x * m + y + cy) / LB, by omega, by go_num, rfl, by simp [hrl], ?_, hbd.2, ?_, ?_, ?_, ?_⟩, by simp [intOf]; omega⟩
      · rw [okL_append]; exact ⟨hro, by intro z hz; rw [List.mem_singleton.1 hz]; exact Nat.mod_lt _ LB_pos⟩
      · exact add_step (by rw [part_at L o n k (by omega)]; exact hy) hx hrl hv
      · have h := (hrow.drewN nq).set (o + k) ((x * m + y + cy) % LB)
        rw [← hrl, upd_set L o r _ (by omega)] at h
        rw [← hrl]; exact h
      · exact grownBy_set (grownBy_trans hgr (grownBy_drewN _ _ _)) _ _
      · simp [World.setCell]; exact hz
    · obtain rfl : k = b.length := by omega
      rw [List.take_length] at hv
      go_wp2
      go_loopw [6, 9] (fun c i wr => At2Rel w g o n L ((L.drop o).take n) (m * val b) c i wr) (fun _ i _ => n - (intOf i).toNat)
      case atStart => exact ⟨b.length, r, cy, hlen, rfl, rfl, hrl, hro, hcy, hv, hrow, hgr, hz⟩
      case round =>
        obtain ⟨k, r, cy, hk, rfl, rfl, hrl, hro, hcy, hv, hrow, hgr, hz⟩ := hrel
        have hfin : (k = n ∨ cy = 0) → ∃ r : List Nat, r.length = n ∧ okL r ∧ (∃ cy, val r + cy * LB ^ n = val ((L.drop o).take n) + m * val b) ∧ Row wr g (upd L o r) ∧ w.grownBy wr (some g) ∧ wr.heap.size = w.heap.size := by
          intro hc
          subst hrl
          exact ⟨r ++ ((L.drop o).take n).drop r.length, by simp; omega, by rw [okL_append]; exact ⟨hro, okL_drop (okL_take (okL_drop HL.out o) n) _⟩, ⟨cy, add_end hon hk hc hv⟩, by rw [upd_tail L o n r hon hk]; exact hrow, hgr, hz⟩
        have HF := Lib.hid hfin
        clear hfin
        by_cases hlt : k < n
        · by_cases hcy0 : 0 < cy
          · obtain ⟨y, hy⟩ : ∃ y, L[o + k]? = some y := ⟨L[o + k]'(by omega), List.getElem?_eq_getElem (by omega)⟩
            have d0 := hrow.cell (i := o + k) (x := y) (by rw [upd_at L o r k (by omega) (by omega), hy])
            have f0 := hrow.frozen (o + k)
            have hy1 := Lim.lt HL.out hy
            have hcy1 : cy < 4294967296 := hcy
            have HY := Lib.hid hy
            clear hy
            go_wp2
            rw [cast_add2, div_lb, mod_lb]
            refine ⟨⟨k + 1, r ++ [(y + cy) % LB], (y + cy) / LB, by omega, by go_num, rfl, by simp [hrl], ?_, carry_lt hy1 hcy, ?_, ?_, ?_, ?_⟩, by simp [intOf]; omega⟩
            · rw [okL_append]; exact ⟨hro, by intro z hz; rw [List.mem_singleton.1 hz]; exact Nat.mod_lt _ LB_pos⟩
            · exact add_step2 (by rw [part_at L o n k (by omega)]; exact HY.out) hrl hv
            · have h := hrow.set (o + k) ((y + cy) % LB)
              rw [← hrl, upd_set L o r _ (by omega)] at h
              rw [← hrl]; exact h
            · exact grownBy_set hgr _ _
            · simp [World.setCell]; exact hz
          · obtain rfl : cy = 0 := by omega
            go_wp2
            go_end0
            exact ⟨⟨_, rfl⟩, HF.out (by simp)⟩
        · obtain rfl : k = n := by omega
          go_wp2
          go_end0
          exact ⟨⟨_, rfl⟩, HF.out (by simp)⟩
end Go.Proofs.YtlababdfdjjjaaaGreatDoor
namespace Go.Proofs.YtlababdfdjjjaaaGreatDoor
open Go.RowKit

/-- One limb more of a difference. -/
theorem sub_step {A b r : List Nat} {k m bw y x z c : Nat} (hy : A[k]? = some y) (hx : b[k]? = some x) (hr : r.length = k) (h : val r + m * val (b.take k) = val (A.take k) + bw * LB ^ k)
    (hz : x * m + bw + z = y + c * LB) : val (r ++ [z]) + m * val (b.take (k + 1)) = val (A.take (k + 1)) + c * LB ^ (k + 1) := by
  rw [val_snoc, hr, take_val hy, take_val hx, Nat.pow_succ]
  generalize LB ^ k = t at *
  grind
theorem sub_step2 {A r : List Nat} {k M bw y z c : Nat} (hy : A[k]? = some y) (hr : r.length = k) (h : val r + M = val (A.take k) + bw * LB ^ k)
    (hz : bw + z = y + c * LB) : val (r ++ [z]) + M = val (A.take (k + 1)) + c * LB ^ (k + 1) := by
  rw [val_snoc, hr, take_val hy, Nat.pow_succ]
  generalize LB ^ k = t at *
  grind
theorem sub_end {L r : List Nat} {o n M bw : Nat} (hon : o + n ≤ L.length) (hr : r.length ≤ n) (hc : r.length = n ∨ bw = 0) (h : val r + M = val (((L.drop o).take n).take r.length) + bw * LB ^ r.length) :
    val (r ++ ((L.drop o).take n).drop r.length) + M = val ((L.drop o).take n) + bw * LB ^ n := by
  have hl : ((L.drop o).take n).length = n := by simp; omega
  rw [val_append, val_split ((L.drop o).take n) r.length (by omega)]
  rcases hc with hc | hc
  · rw [hc] at h ⊢
    rw [List.drop_eq_nil_of_le (by omega)]; simp [val] at h ⊢; omega
  · subst hc; omega
theorem mul_wrap {x m : Nat} (hx : x < LB) (hm : m < LB) : ∃ P : Nat, P = x * m ∧ IntKind.u64.wrap ((x : Int) * (m : Int)) = (P : Int) ∧ P ≤ 18446744065119617025 := by
  have h1 : x * m ≤ 4294967295 * 4294967295 := Nat.mul_le_mul (by rw [LB_eq] at hx; omega) (by rw [LB_eq] at hm; omega)
  refine ⟨x * m, rfl, ?_, h1⟩
  rw [← Int.natCast_mul, wrap_u (by omega)]
theorem sub_nums {P y bw : Nat} (hP : P ≤ 18446744065119617025) (hy : y < LB) (hb : bw < LB) :
    ∃ (X lo hi : Int) (z c : Nat), (P : Int) + (bw : Int) = X ∧ X % 4294967296 = lo ∧ X / 4294967296 = hi ∧ ((y : Int) - X) % 4294967296 = (z : Int) ∧ z < LB ∧ P + bw + z = y + c * LB ∧ c < LB ∧
      0 ≤ X ∧ X ≤ 18446744073709551615 ∧ 0 ≤ lo ∧ lo < 4294967296 ∧ 0 ≤ hi ∧ hi < 4294967296 ∧ (((y : Int) < lo ∧ hi + 1 = (c : Int)) ∨ (¬ (y : Int) < lo ∧ hi = (c : Int))) := by
  rw [LB_eq] at *
  refine ⟨(P : Int) + (bw : Int), ((P : Int) + (bw : Int)) % 4294967296, ((P : Int) + (bw : Int)) / 4294967296, ?_⟩
  by_cases hlt : y < (P + bw) % 4294967296
  · refine ⟨y + 4294967296 - (P + bw) % 4294967296, (P + bw) / 4294967296 + 1, rfl, rfl, rfl, by omega, by omega, by omega, by omega, by omega, by omega, by omega, by omega, by omega, by omega, .inl ⟨by omega, by omega⟩⟩
  · refine ⟨y - (P + bw) % 4294967296, (P + bw) / 4294967296, rfl, rfl, rfl, by omega, by omega, by omega, by omega, by omega, by omega, by omega, by omega, by omega, by omega, .inr ⟨by omega, by omega⟩⟩
theorem sub_nums2 {y bw : Nat} (hy : y < LB) (hb : bw < LB) :
    ∃ X z c : Nat, IntKind.u64.wrap ((y : Int) - (bw : Int)) = (X : Int) ∧ (X : Int) % 4294967296 = (z : Int) ∧ (X : Int) / 9223372036854775808 = (c : Int) ∧ z < LB ∧ bw + z = y + c * LB ∧ c < LB := by
  rw [LB_eq] at *
  by_cases hlt : y < bw
  · exact ⟨18446744073709551616 + y - bw, 4294967296 + y - bw, 1, by rw [IntKind.wrap_u64]; omega, by omega, by omega, by omega, by omega, by omega⟩
  · exact ⟨y - bw, y - bw, 0, by rw [IntKind.wrap_u64]; omega, by omega, by omega, by omega, by omega, by omega⟩

def SbRel (w : World) (g o : Nat) (L A b : List Nat) (m : Nat) (c i : Value) (wr : World) : Prop :=
  ∃ (k : Nat) (r : List Nat) (bw : Nat), k ≤ b.length ∧ i = .int .i64 k ∧ c = .int .u64 bw ∧ r.length = k ∧ okL r ∧ bw < LB ∧ val r + m * val (b.take k) = val (A.take k) + bw * LB ^ k ∧
    Row wr g (upd L o r) ∧ w.grownBy wr (some g) ∧ wr.heap.size = w.heap.size
def Sb2Rel (w : World) (g o n : Nat) (L A : List Nat) (M : Nat) (c i : Value) (wr : World) : Prop :=
  ∃ (k : Nat) (r : List Nat) (bw : Nat), k ≤ n ∧ i = .int .i64 k ∧ c = .int .u64 bw ∧ r.length = k ∧ okL r ∧ bw < LB ∧ val r + M = val (A.take k) + bw * LB ^ k ∧
    Row wr g (upd L o r) ∧ w.grownBy wr (some g) ∧ wr.heap.size = w.heap.size
def SbPost (g o n : Nat) (L b : List Nat) (m : Nat) (w : World) (e : Ending) (w' : World) : Prop :=
  ∃ (r : List Nat) (bw : Nat), e = .returned (.bool (decide (0 < bw))) ∧ r.length = n ∧ okL r ∧ val r + m * val b = val ((L.drop o).take n) + bw * LB ^ n ∧ Row w' g (upd L o r) ∧ w.grownBy w' (some g) ∧ w'.heap.size = w.heap.size

set_option maxRecDepth 100000 in
set_option maxHeartbeats 4000000 in
theorem takeTimes_any (B g o n cap : Nat) (L b : List Nat) (vb : Value) (m : Nat) (w : World) (hr : Row w g L) (hL : okL L) (hb : Lim w B vb b) (hB : B ≤ g) (hBw : B ≤ w.heap.size) (hm : m < LB) (hlen : b.length ≤ n) (hon : o + n ≤ L.length) (hLen : L.length ≤ 1000000000) (hcap : n ≤ cap) :
    Calls Tryz.prog 128 #[.slice (some ⟨g, o, none⟩) n cap, vb, .int .u32 (m : Int)] w (SbPost g o n L b m w) := by
  obtain ⟨A, capb, rfl, hcapb⟩ := hb.form
  have HB := Lib.hid hb
  have HL := Lib.hid hL
  have HM := Lib.hid hm
  have hm1 : m < 4294967296 := hm
  have HR := Lib.hid hr
  clear hb hL hr hm
  go_enter Tryz.func128, Tryz.ntmps128
  go_wp2
  go_loopw [7, 14] (fun c i wr => SbRel w g o L ((L.drop o).take n) b m c i wr) (fun _ i _ => b.length - (intOf i).toNat)
  case atStart => exact ⟨0, [], 0, Nat.zero_le _, rfl, rfl, rfl, okL_nil, LB_pos, by simp [val], by rw [upd_nil]; exact HR.out, grownBy_refl _ _, rfl⟩
  case round =>
    obtain ⟨k, r, bw, hk, rfl, rfl, hrl, hro, hbw, hv, hrow, hgr, hz⟩ := hrel
    by_cases hlt : k < b.length
    · obtain ⟨x, hx⟩ : ∃ x, b[k]? = some x := ⟨b[k], List.getElem?_eq_getElem hlt⟩
      obtain ⟨y, hy⟩ : ∃ y, L[o + k]? = some y := ⟨L[o + k]'(by omega), List.getElem?_eq_getElem (by omega)⟩
      obtain ⟨g', o', rfl, hg', c0⟩ := (HB.out.grown hgr hB hBw).cell hx
      have d0 := hrow.cell (i := o + k) (x := y) (by rw [upd_at L o r k (by omega) (by omega), hy])
      have f0 := hrow.frozen (o + k)
      have hx1 := Lim.lt HB.out.2 hx
      have hy1 := Lim.lt HL.out hy
      obtain ⟨P, hPe, e0, hP⟩ := mul_wrap (x := x) hx1 HM.out
      obtain ⟨X, lo, hi, z, c, e1, e2, e3, e4, hzB, hsum, hcB, hX0, hX1, hlo0, hlo1, hhi0, hhi1, hcase⟩ := sub_nums (y := y) hP hy1 hbw
      rw [hPe] at hsum
      have hbw1 : bw < 4294967296 := hbw
      have HX := Lib.hid hx
      have HY := Lib.hid hy
      have hfin : okL (r ++ [z]) ∧ val (r ++ [z]) + m * val (b.take (k + 1)) = val (((L.drop o).take n).take (k + 1)) + c * LB ^ (k + 1) ∧ (∀ wx : World, Row wx g (upd L o r) → Row (wx.setCell ⟨g, o + k, none⟩ (.int .u32 (z : Int))) g (upd L o (r ++ [z]))) ∧ (r ++ [z]).length = k + 1 := by
        refine ⟨by rw [okL_append]; exact ⟨hro, by intro q hq; rw [List.mem_singleton.1 hq]; exact hzB⟩, sub_step (by rw [part_at L o n k (by omega)]; exact hy) hx hrl hv hsum, ?_, by simp [hrl]⟩
        intro wx hwx
        have h := hwx.set (o + k) z
        rw [← hrl, upd_set L o r _ (by omega)] at h
        rw [← hrl]; exact h
      have HF := Lib.hid hfin
      have HC := Lib.hid hcB
      have E1 := Lib.hid e1
      have E2 := Lib.hid e2
      have E3 := Lib.hid e3
      have E4 := Lib.hid e4
      have HPE := Lib.hid hPe
      have HCA := Lib.hid hcase
      clear hx hy hPe hv hfin hsum hzB hcB e1 e2 e3 e4 hcase
      go_upto_if 35 with (fail)
      rw [E1.out, E2.out, E3.out]
      clear e0 hP hX1
      rcases HCA.out with ⟨hlo, hce⟩ | ⟨hlo, hce⟩
      all_goals
        have HCE := Lib.hid hce
        clear hce
        go_wp2
        rw [E4.out, HCE.out]
        obtain ⟨f1, f2, f3, f4⟩ := HF.out
        exact ⟨⟨k + 1, r ++ [z], c, by omega, by go_num, rfl, f4, f1, HC.out, f2, f3 _ hrow, grownBy_set hgr _ _, by simp [World.setCell]; exact hz⟩, by simp [intOf]; omega⟩
    · obtain rfl : k = b.length := by omega
      rw [List.take_length] at hv
      have HV := Lib.hid hv
      clear hv
      go_wp2
      go_loopw [7, 10] (fun c i wr => Sb2Rel w g o n L ((L.drop o).take n) (m * val b) c i wr) (fun _ i _ => n - (intOf i).toNat)
      case atStart => exact ⟨b.length, r, bw, hlen, rfl, rfl, hrl, hro, hbw, HV.out, hrow, hgr, hz⟩
      case round =>
        clear HV hk hrl hro hbw hrow hgr hz
        obtain ⟨k, r, bw, hk, rfl, rfl, hrl, hro, hbw, hv, hrow, hgr, hz⟩ := hrel
        have hfin : (k = n ∨ bw = 0) → SbPost g o n L b m w (.returned (.bool (decide (0 < bw)))) wr := by
          intro hc
          subst hrl
          exact ⟨r ++ ((L.drop o).take n).drop r.length, bw, rfl, by simp; omega, by rw [okL_append]; exact ⟨hro, okL_drop (okL_take (okL_drop HL.out o) n) _⟩, sub_end hon hk hc hv, by rw [upd_tail L o n r hon hk]; exact hrow, hgr, hz⟩
        have HF := Lib.hid hfin
        have HV := Lib.hid hv
        clear hfin hv
        by_cases hlt : k < n
        · by_cases hbw0 : 0 < bw
          · obtain ⟨y, hy⟩ : ∃ y, L[o + k]? = some y := ⟨L[o + k]'(by omega), List.getElem?_eq_getElem (by omega)⟩
            have d0 := hrow.cell (i := o + k) (x := y) (by rw [upd_at L o r k (by omega) (by omega), hy])
            have f0 := hrow.frozen (o + k)
            have hy1 := Lim.lt HL.out hy
            obtain ⟨X, z, c, e1, e2, e3, hzB, hsum, hcB⟩ := sub_nums2 hy1 hbw
            have hbw1 : bw < 4294967296 := hbw
            have HY := Lib.hid hy
            have E1 := Lib.hid e1
            have E2 := Lib.hid e2
            have E3 := Lib.hid e3
            clear hy e1 e2 e3
            go_wp2
            rw [E1.out, E2.out, E3.out]
            refine ⟨⟨k + 1, r ++ [z], c, by omega, by go_num, rfl, by simp [hrl], ?_, hcB, ?_, ?_, grownBy_set hgr _ _, by simp [World.setCell]; exact hz⟩, by simp [intOf]; omega⟩
            · rw [okL_append]; exact ⟨hro, by intro q hq; rw [List.mem_singleton.1 hq]; exact hzB⟩
            · exact sub_step2 (by rw [part_at L o n k (by omega)]; exact HY.out) hrl HV.out hsum
            · have h := hrow.set (o + k) z
              rw [← hrl, upd_set L o r _ (by omega)] at h
              rw [← hrl]; exact h
          · obtain rfl : bw = 0 := by omega
            go_wp2
            go_ret
            exact HF.out (by simp)
        · obtain rfl : k = n := by omega
          go_wp2
          go_ret
          exact HF.out (by simp)
end Go.Proofs.YtlababdfdjjjaaaGreatDoor
namespace Go.Proofs.YtlababdfdjjjaaaGreatDoor
open Go.RowKit

/-- What a function leaves that returns a number. -/
def NumPost (w : World) (n : Nat) (e : Ending) (w' : World) : Prop := ∃ v, e = .returned v ∧ Num w' w'.heap.size v n ∧ Below w.heap.size w w'
theorem below_grown {w w1 w2 : World} {g : Nat} (hb : Below w.heap.size w w1) (hg : w1.grownBy w2 (some g)) (hB : w.heap.size ≤ g) : Below w.heap.size w w2 := below_of_grown hb hg hB hb.size
theorem take_zero_pad (n : Nat) (l : List Nat) : val (l ++ List.replicate n 0) = val l := by rw [val_append, val_zero, Nat.mul_zero, Nat.add_zero]
theorem splice_pad (n : Nat) (l : List Nat) : splice (List.replicate n 0) 0 l = l ++ List.replicate (n - l.length) 0 := by
  simp [splice]
theorem pad_ok {l : List Nat} (h : okL l) (n : Nat) : okL (l ++ List.replicate n 0) := by rw [okL_append]; exact ⟨h, okL_zero n⟩
theorem le_pow_of {l : List Nat} {n : Nat} (h : okL l) (hn : l.length ≤ n) : val l < LB ^ n := Nat.lt_of_lt_of_le (val_lt h) (Nat.pow_le_pow_right LB_pos hn)
/-- Nothing is carried out of a row that is long enough. -/
theorem no_carry {r : List Nat} {n V cy : Nat} (h : val r + cy * LB ^ n = V) (hV : V < LB ^ n) : val r = V := by
  rcases Nat.eq_zero_or_pos cy with h0 | h0
  · subst h0; omega
  · have : 1 * LB ^ n ≤ cy * LB ^ n := Nat.mul_le_mul_right _ h0
    omega

set_option maxRecDepth 100000 in
set_option maxHeartbeats 1000000 in
theorem sum_any (va vb : Value) (a b : List Nat) (w : World) (ha : Lim w w.heap.size va a) (hb : Lim w w.heap.size vb b) (hla : a.length ≤ 100000000) (hlb : b.length ≤ 100000000) :
    Calls Tryz.prog 84 #[va, vb] w (NumPost w (val a + val b)) := by
  obtain ⟨A, capa, rfl, hcapa⟩ := ha.form
  obtain ⟨N, hN⟩ : ∃ N, N = max a.length b.length + 1 := ⟨_, rfl⟩
  have hb0 : Below w.heap.size w (w.alloc (.cells (zeros N).toArray 64)) := (Below.refl _ _).alloc (Nat.le_refl _) _
  obtain ⟨w1, hcp, hr1, hg1, hz1⟩ := copyU (w.alloc (.cells (zeros N).toArray 64)) A w.heap.size 0 N N capa w.heap.size (List.replicate N 0) a (Row.new w _) (ha.below hb0) (by omega) (by simp; omega)
  rw [splice_pad] at hr1
  have hb1 := below_grown hb0 hg1 (Nat.le_refl _)
  have hlen : (a ++ List.replicate (N - a.length) 0).length = N := by simp; omega
  have hadd := addTimes_any w.heap.size w.heap.size 0 N N _ b vb 1 w1 hr1 (pad_ok ha.2 _) (hb.below hb1) (Nat.le_refl _) hb1.size (by rw [LB_eq]; omega) (by omega) (by omega) (by omega) (Nat.le_refl _)
  have hval : ∀ r cy, val r + cy * LB ^ N = val (((a ++ List.replicate (N - a.length) 0).drop 0).take N) + 1 * val b → val r = val a + val b := by
    intro r cy h
    rw [List.drop_zero, List.take_of_length_le (by omega), take_zero_pad, Nat.one_mul] at h
    refine no_carry h ?_
    have h1 : val a < LB ^ (N - 1) := le_pow_of ha.2 (by omega)
    have h2 : val b < LB ^ (N - 1) := le_pow_of hb.2 (by omega)
    have h3 : LB ^ N = LB ^ (N - 1) * LB := by rw [← Nat.pow_succ]; congr 1; omega
    have h4 : LB ^ (N - 1) * 2 ≤ LB ^ (N - 1) * LB := Nat.mul_le_mul_left _ LB_two
    omega
  have hfin : ∀ (w2 : World) (r : List Nat), r.length = N → okL r → Row w2 w.heap.size (upd (a ++ List.replicate (N - a.length) 0) 0 r) → Lim w2 w2.heap.size (.slice (some ⟨w.heap.size, 0, none⟩) N N) r := by
    intro w2 r h1 h2 h3
    have e : upd (a ++ List.replicate (N - a.length) 0) 0 r = r := by
      unfold upd; rw [List.drop_eq_nil_of_le (by omega)]; simp
    rw [e] at h3
    have := h3.whole h2 N (by omega)
    rw [h1] at this; exact this
  obtain ⟨B, capb, rfl, hcapb⟩ := hb.form
  have HA := Lib.hid hadd
  have HV := Lib.hid hval
  have HF := Lib.hid hfin
  have HB := Lib.hid hb1
  clear ha hb hr1 hg1 hadd hval hfin hlen hb0 hb1
  by_cases hle : a.length < b.length
  all_goals
    first
      | (have hmk := fun W => mkI ((b.length : Int) + 1) N (by omega) (by omega) W; have tok : a.length < b.length := hle)
      | (have hmk := fun W => mkI ((a.length : Int) + 1) N (by omega) (by omega) W)
    have HN := Lib.hid hN
    clear hN
    go_enter Tryz.func84, Tryz.ntmps84
    go_wp2_with (first
      | (go_at_call 126; refine HA.out.mono ?_; rintro e w2 ⟨⟨v, rfl⟩, r, hrl, hro, ⟨cy, hrv⟩, hrow, hgr, hz⟩; have hlim := HF.out _ _ hrl hro hrow; have hval := HV.out _ _ hrv; have HV2 := Lib.hid hval; have HL2 := Lib.hid hlim; have HB2 := Lib.hid (below_grown HB.out hgr (Nat.le_refl _)); clear hrl hro hrv hrow hgr hz hlim hval)
      | (go_at_call 75; refine (trim_any _ _ _ HL2.out (by have := HL2.out.1.form; have := HN.out; obtain ⟨_, _, e, _⟩ := HL2.out.1.form; simp at e; omega)).mono ?_; rintro e w3 ⟨v', rfl, hnum, rfl⟩))
    go_ret
    exact ⟨_, rfl, by rw [HV2.out] at hnum; exact hnum, HB2.out⟩
end Go.Proofs.YtlababdfdjjjaaaGreatDoor
namespace Go.Proofs.YtlababdfdjjjaaaGreatDoor
open Go.RowKit

theorem mul_lt_pow {a b : List Nat} {k N : Nat} (ha : okL a) (hb : okL b) (hk : k + b.length ≤ N) : val (a.take k) * val b < LB ^ N := by
  have h1 : val (a.take k) < LB ^ k := le_pow_of (okL_take ha k) (by rw [List.length_take]; omega)
  have h2 := val_lt hb
  have h3 : val (a.take k) * val b < LB ^ k * LB ^ b.length := by
    rcases Nat.eq_zero_or_pos (val b) with h | h
    · rw [h, Nat.mul_zero]; exact Nat.mul_pos (pow_pos' _) (pow_pos' _)
    · exact Nat.lt_of_lt_of_le (Nat.mul_lt_mul_of_pos_right h1 h) (Nat.mul_le_mul_left _ (Nat.le_of_lt h2))
  rw [← Nat.pow_add] at h3
  exact Nat.lt_of_lt_of_le h3 (Nat.pow_le_pow_right LB_pos hk)
/-- One row of a product is added. -/
theorem mul_step {a b R r : List Nat} {k N x cy : Nat} (ha : okL a) (hb : okL b) (hR : R.length = N) (hx : a[k]? = some x) (hk : k + 1 + b.length ≤ N) (hv : val R = val (a.take k) * val b)
    (h : val r + cy * LB ^ (N - k) = val ((R.drop k).take (N - k)) + x * val b) (hr : r.length = N - k) : val (upd R k r) = val (a.take (k + 1)) * val b := by
  have e1 : upd R k r = R.take k ++ r := by unfold upd; rw [List.drop_eq_nil_of_le (by omega)]; simp
  have e2 : (R.drop k).take (N - k) = R.drop k := List.take_of_length_le (by simp; omega)
  have e3 : (R.take k).length = k := by simp; omega
  rw [e2] at h
  have hs := val_split R k (by omega)
  have hlt := mul_lt_pow ha hb hk
  rw [take_val hx] at hlt ⊢
  rw [e1]
  refine no_carry (r := R.take k ++ r) (n := N) (cy := cy) ?_ hlt
  rw [val_append, e3]
  have e4 : LB ^ N = LB ^ k * LB ^ (N - k) := by rw [← Nat.pow_add]; congr 1; omega
  rw [e4, Nat.add_mul, ← hv, hs]
  generalize LB ^ k = z at *
  generalize LB ^ (N - k) = y at *
  grind

def MuRel (w : World) (g N : Nat) (a b : List Nat) (i : Value) (wr : World) : Prop :=
  ∃ (k : Nat) (R : List Nat), k ≤ a.length ∧ i = .int .i64 k ∧ R.length = N ∧ okL R ∧ val R = val (a.take k) * val b ∧ Row wr g R ∧ Below w.heap.size w wr

set_option maxRecDepth 100000 in
set_option maxHeartbeats 2000000 in
theorem product_any (va vb : Value) (a b : List Nat) (w : World) (ha : Lim w w.heap.size va a) (hb : Lim w w.heap.size vb b) (hla : a.length ≤ 100000000) (hlb : b.length ≤ 100000000) :
    Calls Tryz.prog 85 #[va, vb] w (NumPost w (val a * val b)) := by
  obtain ⟨A, capa, rfl, hcapa⟩ := ha.form
  obtain ⟨B, capb, rfl, hcapb⟩ := hb.form
  obtain ⟨N, hN, hN'⟩ : ∃ N, N ≤ a.length + b.length ∧ a.length + b.length ≤ N := ⟨_, Nat.le_refl _, Nat.le_refl _⟩
  have hmk := fun W => mkI ((a.length : Int) + (b.length : Int)) N (by omega) (by omega) W
  have hb0 : Below w.heap.size w (w.alloc (.cells (zeros N).toArray 64)) := (Below.refl _ _).alloc (Nat.le_refl _) _
  have hr0 := Row.new w N
  have HA := Lib.hid ha
  have HB := Lib.hid hb
  have HR0 := Lib.hid hr0
  clear ha hb hr0
  go_enter Tryz.func85, Tryz.ntmps85
  go_wp2
  go_loopw [15] (fun i wr => MuRel w w.heap.size N a b i wr) (fun i _ => a.length - (intOf i).toNat)
  case atStart => exact ⟨0, List.replicate N 0, Nat.zero_le _, rfl, by simp, okL_zero N, by rw [val_zero]; simp [val], HR0.out, hb0⟩
  case round =>
    obtain ⟨k, R, hk, rfl, hRl, hRo, hRv, hrow, hb1⟩ := hrel
    by_cases hlt : k < a.length
    · obtain ⟨x, hx⟩ : ∃ x, a[k]? = some x := ⟨a[k], List.getElem?_eq_getElem hlt⟩
      obtain ⟨g', o', rfl, hg', c0⟩ := (HA.out.below hb1).cell hx
      have hx1 := Lim.lt HA.out.2 hx
      have hkN : k < N := by omega
      have hadd := fun cap hc => addTimes_any w.heap.size w.heap.size k (N - k) cap R b (.slice B b.length capb) x wr.drew hrow hRo (HB.out.below hb1.drew) (Nat.le_refl _) hb1.size hx1 (by omega) (by omega) (by omega) hc
      have HX := Lib.hid hx
      have HAD := Lib.hid hadd
      clear hx hadd
      go_wp2
      go_region_with (go_at_call 126; refine (HAD.out _ (by omega)).mono ?_; rintro e w2 ⟨⟨v, rfl⟩, r, hrl, hro, ⟨cy, hrv⟩, hrow2, hgr, hz⟩)
      all_goals
        have hst := mul_step HA.out.2 HB.out.2 hRl HX.out (by omega) hRv hrv hrl
        have hb2 := below_grown hb1.drew hgr (Nat.le_refl _)
        have HST := Lib.hid hst
        have hrl2 := Lib.hid hrl
        clear hst hrv hRv hrl
        go_wp2
        go_roundw
        case rel => exact ⟨k + 1, upd R k r, by omega, by go_num, by rw [upd_len R k r (by have := hrl2.out; omega)]; exact hRl, upd_ok k hRo hro, HST.out, hrow2, hb2⟩
        case measure => simp [intOf]; omega
    · obtain rfl : k = a.length := by omega
      rw [List.take_length] at hRv
      have hlim := hrow.whole hRo N (by omega)
      rw [hRl] at hlim
      have HV := Lib.hid hRv
      have HL := Lib.hid hlim
      clear hRv hlim hrow
      go_wp2_with (go_at_call 75; refine (trim_any _ _ _ HL.out (by omega)).mono ?_; rintro e w3 ⟨v', rfl, hnum, rfl⟩)
      go_ret
      exact ⟨_, rfl, by rw [HV.out] at hnum; exact hnum, hb1⟩
end Go.Proofs.YtlababdfdjjjaaaGreatDoor
