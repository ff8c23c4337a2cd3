import Derived.Test.YtdncfignegagjaaDoorW13
import Derived.Deep.AppendLies
import Derived.Deep.RegionHeld3
import Derived.Laws.StructEq
namespace Go.Proofs.YtdncfignegagjaaDoor
open Go.RowKit

/-- The slice value v reads as the fields xs, in a block below B. -/
def SlF (w : World) (B : Nat) (v : Value) (xs : List Fld) : Prop :=
  ∃ A cap, v = .slice A xs.length cap ∧ (xs ≠ [] → ∃ g o, A = some ⟨g, o, none⟩ ∧ g < B ∧
    ∀ k x, xs[k]? = some x → w.cell? ⟨g, o + k * 2, none⟩ = some (.bool x.1) ∧ w.cell? ⟨g, o + k * 2 + 1, none⟩ = some (.string ⟨x.2.toArray⟩))

theorem flat_at : ∀ (xs : List Fld) (k : Nat) (x : Fld), xs[k]? = some x → (flat xs)[k * 2]? = some (.bool x.1) ∧ (flat xs)[k * 2 + 1]? = some (.string ⟨x.2.toArray⟩)
  | [], k, x, h => by simp at h
  | y :: r, 0, x, h => by
    simp at h; subst h
    exact ⟨rfl, rfl⟩
  | y :: r, k + 1, x, h => by
    have e : flat (y :: r) = .bool y.1 :: .string ⟨y.2.toArray⟩ :: flat r := rfl
    have := flat_at r k x (by simpa using h)
    rw [e, show (k + 1) * 2 = k * 2 + 1 + 1 by omega]
    exact this
theorem SlF.of_own {w : World} {base : Nat} {t : TypeId} {v : Value} {xs : List Fld} (h : w.ownsRow base t 2 v xs.length (flat xs)) : SlF w w.heap.size v xs := by
  rcases h.2 with ⟨rfl, h0⟩ | ⟨g, cap, cur, rfl, _⟩
  · exact ⟨none, 0, by rw [h0], fun hne => absurd (List.eq_nil_of_length_eq_zero h0) hne⟩
  · refine ⟨_, cap, rfl, fun hne => ⟨g, 0, rfl, ?_, ?_⟩⟩
    · have hpos : 0 < xs.length := by cases xs with | nil => exact absurd rfl hne | cons a r => simp
      obtain ⟨g', cap', e, _, hlt⟩ := h.form hpos
      cases e; exact hlt
    · intro k x hx
      obtain ⟨h1, h2⟩ := flat_at xs k x hx
      have hc := h.cells (g := g) rfl
      have c1 := hc _ _ h1
      have c2 := hc _ _ h2
      rw [add_eq] at c1 c2
      exact ⟨by simpa using c1, by simpa using c2⟩
theorem SlF.below {w w' : World} {B : Nat} {v : Value} {xs : List Fld} (h : SlF w B v xs) (hb : Below B w w') : SlF w' B v xs := by
  obtain ⟨A, cap, rfl, hc⟩ := h
  refine ⟨A, cap, rfl, fun hne => ?_⟩
  obtain ⟨g, o, rfl, hg, hx⟩ := hc hne
  exact ⟨g, o, rfl, hg, fun k x hk => ⟨(hb.cell (p := ⟨g, _, none⟩) hg).trans (hx k x hk).1, (hb.cell (p := ⟨g, _, none⟩) hg).trans (hx k x hk).2⟩⟩
theorem SlF.more {w : World} {B B' : Nat} {v : Value} {xs : List Fld} (h : SlF w B v xs) (hB : B ≤ B') : SlF w B' v xs := by
  obtain ⟨A, cap, rfl, hc⟩ := h
  exact ⟨A, cap, rfl, fun hne => let ⟨g, o, e, hg, hx⟩ := hc hne; ⟨g, o, e, by omega, hx⟩⟩

theorem Tryd.infoR : (Tryd.prog.info? 61).map (fun i => (i.zero, i.size, i.bytes)) = some (some (.agg #[.bool false, .string ⟨#[]⟩]), 2, 24) := by kernel_rfl

def FsPost (w : World) (xs : List Fld) (e : Ending) (w' : World) : Prop :=
  ∃ v, e = .returned v ∧ w'.ownsRow w.heap.size 61 2 v xs.length (flat xs) ∧ Below w.heap.size w w'

def FsRel (w : World) (xs : List Fld) (v i : Value) (wr : World) : Prop :=
  ∃ k : Nat, k ≤ xs.length ∧ i = .int .i64 k ∧ wr.ownsRow w.heap.size 61 2 v k (flat (xs.take k)) ∧ Below w.heap.size w wr

theorem take_snoc' (xs : List Fld) (k : Nat) (x : Fld) (h : xs[k]? = some x) : xs.take (k + 1) = xs.take k ++ [x] := by
  rw [List.take_add_one, h]; rfl

set_option maxRecDepth 100000 in
set_option maxHeartbeats 3200000 in
theorem lawFields_any (v : Value) (xs : List Fld) (w : World) (hx : SlF w w.heap.size v xs) (hlen : xs.length ≤ 1000000) :
    Calls Tryd.prog 37 #[v] w (FsPost w xs) := by
  obtain ⟨i0, hi0, hz0, hz1, hz2⟩ := info_parts Tryd.infoR
  obtain ⟨A, cap, rfl, hc⟩ := hx
  have HC := Lib.hid hc
  clear hc
  go_enter Tryd.func37, Tryd.ntmps37
  go_wp2
  go_loopw [3, 4] (fun v i wr => FsRel w xs v i wr) (fun _ i _ => xs.length - (intOf i).toNat)
  case atStart => exact ⟨0, Nat.zero_le _, rfl, World.ownsRow_nil _ _ _ _, Below.refl _ _⟩
  case round =>
    obtain ⟨k, hk, rfl, hown, hb⟩ := hrel
    by_cases hlt : k < xs.length
    · obtain ⟨x, hx⟩ : ∃ x, xs[k]? = some x := ⟨xs[k], List.getElem?_eq_getElem hlt⟩
      obtain ⟨g, o, rfl, hg, hcell⟩ := HC.out (by intro e; rw [e] at hlt; simp at hlt)
      obtain ⟨c0, c1⟩ := hcell k x hx
      have c0 := (hb.cell (p := ⟨g, o + k * 2, none⟩) hg).trans c0
      have c1 := (hb.cell (p := ⟨g, o + k * 2 + 1, none⟩) hg).trans c1
      have hi0' : (0 : Int) ≤ (k : Int) := Int.natCast_nonneg _
      have hi1 : (k : Int) < (xs.length : Int) := by omega
      clear hcell
      have hne : u3.ownBlock ≠ some g := by
        rcases hown.2 with ⟨rfl, _⟩ | ⟨g', cap', cur, rfl, hbb, _⟩
        · simp [Value.ownBlock]
        · intro e
          have : g' = g := by simpa [Value.ownBlock] using e
          omega
      have lg := World.block_lt_of_cell? wr _ c0
      have hbs := hb.size
      go_wp2
      go_region_held3 (fun w' => w'.cell? ⟨g, o + k * 2, none⟩ = some (.bool x.1) ∧ w'.cell? ⟨g, o + k * 2 + 1, none⟩ = some (.string ⟨x.2.toArray⟩))
        (first
          | go_keep
          | (go_split_ands
             refine ⟨?_, ?_⟩
             · (rw [hgrow.cell_far _ (by simp; omega) (Ne.symm hne)]; assumption)
             · (rw [hgrow.cell_far _ (by simp; omega) (Ne.symm hne)]; assumption)))
        ((refine step_append_lies _ (by rfl) _ _ _ (by rfl) w.heap.size 61 i0 _ 2 24 Tryd.underlying46 hi0 hz0 hz1 hz2 rfl (by omega) u3 k (flat (xs.take k)) (by rfl) ((hown.alloc _).drew)
            ⟨wr.heap.size, 0, none⟩ 1 1 [.bool x.1, .string ⟨x.2.toArray⟩] (by rfl) (by rfl) (World.news_of_block (cs := #[.bool x.1, .string ⟨x.2.toArray⟩]) (t := 61) (fr := (0, 0)) (heap_alloc_new wr _)) (by simp [Value.oneCell'])
            (by omega) (by unfold maxLen; omega) (by omega) (by simp; omega) (wr.heap.size + 1) (by simp) ?_; intro gg cap' w1 hown1 hgrow hat hlt1))
      have hb1 : Below w.heap.size w w1 := (((hb.alloc hbs _).drew).grown hgrow (by simp; omega) (fun j ej => by
        rcases hown.2 with ⟨rfl, _⟩ | ⟨g', cap', cur, rfl, hbb, _⟩
        · simp [Value.ownBlock] at ej
        · obtain rfl : g' = j := by simpa [Value.ownBlock] using ej
          exact hbb))
      go_wp2
      go_roundw
      case rel => exact ⟨k + 1, by omega, by go_num, by rw [take_snoc' xs k x hx, flat_snoc]; exact hown1, hb1⟩
      case measure => simp [intOf]; omega
    · go_wp2
      go_ret
      have e : k = xs.length := by omega
      subst e
      exact ⟨_, rfl, by rw [List.take_length] at hown; exact hown, hb⟩

/-- The comparison of two structs of a bool and a string. -/
theorem fld_eq (x y : Fld) : (x = y) ↔ (x.1 = y.1 ∧ x.2 = y.2) := by
  cases x; cases y; simp

theorem neq_fld (a b : Bool) (s t : ByteArray) (w : World) : (binOp .neq 61 (.agg #[.bool a, .string s]) (.agg #[.bool b, .string t])).run Tryd.prog w = .ok (.bool (!(a == b && s.toList == t.toList))) w := by
  have h := Tryd.underlying61
  rw [run_neq_struct, run_equalIn_agg]
  · simp [go_sem]
    by_cases h1 : a = b <;> by_cases h2 : s.toList = t.toList <;> simp [h1, h2]
  · kernel_rfl
  · kernel_rfl
theorem neq_same (x : Fld) (w : World) : (binOp .neq 61 (.agg #[.bool x.1, .string ⟨x.2.toArray⟩]) (.agg #[.bool x.1, .string ⟨x.2.toArray⟩])).run Tryd.prog w = .ok (.bool false) w := by
  rw [neq_fld]; simp
theorem neq_other {x y : Fld} (h : x ≠ y) (w : World) : (binOp .neq 61 (.agg #[.bool x.1, .string ⟨x.2.toArray⟩]) (.agg #[.bool y.1, .string ⟨y.2.toArray⟩])).run Tryd.prog w = .ok (.bool true) w := by
  rw [neq_fld, toL, toL]
  have : ¬ (x.1 = y.1 ∧ x.2 = y.2) := fun e => h ((fld_eq x y).2 e)
  by_cases h1 : x.1 = y.1
  · have h2 : ¬ x.2 = y.2 := fun e => this ⟨h1, e⟩
    simp [h1, h2]
  · simp [h1]

set_option maxRecDepth 100000 in
set_option maxHeartbeats 3200000 in
theorem alike_any (v u : Value) (xs ys : List Fld) (w : World) (hx : SlF w w.heap.size v xs) (hy : SlF w w.heap.size u ys) (h1 : xs.length ≤ 1000000) (_h2 : ys.length ≤ 1000000) :
    Calls Tryd.prog 36 #[v, u] w fun e w' => e = .returned (.bool (decide (xs = ys))) ∧ Drawn w w' := by
  obtain ⟨A, cap, rfl, hc⟩ := hx
  obtain ⟨B, cap', rfl, hd⟩ := hy
  have HC := Lib.hid hc
  have HD := Lib.hid hd
  clear hc hd
  by_cases hl : xs.length = ys.length
  · have q1 : ((xs.length : Int) == (ys.length : Int)) = true := by simp [hl]
    have q2 : ((xs.length : Int) != (ys.length : Int)) = false := by simp [hl]
    have HL := Lib.hid hl
    clear hl
    go_enter Tryd.func36, Tryd.ntmps36
    go_wp2
    go_loopw [5] (fun i wr => ∃ k : Nat, k ≤ xs.length ∧ i = .int .i64 k ∧ xs.take k = ys.take k ∧ Drawn w wr) (fun i _ => xs.length - (intOf i).toNat)
    case atStart => exact ⟨0, Nat.zero_le _, rfl, rfl, 0, rfl⟩
    case round =>
      obtain ⟨k, hk, rfl, heq, hdr⟩ := hrel
      have HE := Lib.hid heq
      clear heq
      by_cases hlt : k < xs.length
      · have hlt2 : k < ys.length := by have := HL.out; omega
        obtain ⟨x, hx⟩ : ∃ x, xs[k]? = some x := ⟨xs[k], List.getElem?_eq_getElem hlt⟩
        obtain ⟨y, hy⟩ : ∃ y, ys[k]? = some y := ⟨ys[k], List.getElem?_eq_getElem hlt2⟩
        obtain ⟨g, o, rfl, hg, hcell⟩ := HC.out (by intro e; rw [e] at hlt; simp at hlt)
        obtain ⟨g', o', rfl, hg', hcell'⟩ := HD.out (by intro e; rw [e] at hlt2; simp at hlt2)
        obtain ⟨c0, c1⟩ := hcell k x hx
        obtain ⟨d0, d1⟩ := hcell' k y hy
        obtain ⟨m, rfl⟩ := hdr
        have hbb := below_drewN w m
        have c0 := (hbb.cell (p := ⟨g, o + k * 2, none⟩) hg).trans c0
        have c1 := (hbb.cell (p := ⟨g, o + k * 2 + 1, none⟩) hg).trans c1
        have d0 := (hbb.cell (p := ⟨g', o' + k * 2, none⟩) hg').trans d0
        have d1 := (hbb.cell (p := ⟨g', o' + k * 2 + 1, none⟩) hg').trans d1
        have HX := Lib.hid hx
        have HY := Lib.hid hy
        clear hcell hcell' hx hy hbb
        have i1 : (0 : Int) ≤ (k : Int) := Int.natCast_nonneg _
        have i2 : (k : Int) < (xs.length : Int) := by omega
        have i3 : (k : Int) < (ys.length : Int) := by omega
        by_cases hxy : x = y
        · subst hxy
          have hneq := neq_same x
          go_wp2
          go_quiet (fail)
          go_wp2
          go_roundw
          case rel => exact ⟨k + 1, by omega, by go_num, by rw [take_snoc' xs k x HX.out, take_snoc' ys k x HY.out, HE.out], _, by first | rfl | exact drewN_drewN _ _ _⟩
          case measure => simp [intOf]; omega
        · have hneq := neq_other hxy
          have Hxy := Lib.hid hxy
          clear hxy
          go_wp2
          go_quiet (fail)
          go_wp2
          go_ret
          refine ⟨ret_bool ?_, _, by first | rfl | exact drewN_drewN _ _ _⟩
          symm
          rw [decide_eq_false_iff_not]
          intro e
          have h1 := HX.out
          rw [e, HY.out] at h1
          exact Hxy.out (Option.some.inj h1).symm
      · go_wp2
        go_ret
        refine ⟨ret_bool ?_, hdr⟩
        symm
        rw [decide_eq_true_eq]
        have h1 := HE.out
        rw [List.take_of_length_le (by omega), List.take_of_length_le (by have := HL.out; omega)] at h1
        exact h1
  · have q1 : ((xs.length : Int) == (ys.length : Int)) = false := by simp; omega
    have q2 : ((xs.length : Int) != (ys.length : Int)) = true := by simp; omega
    have HL := Lib.hid hl
    clear hl
    go_enter Tryd.func36, Tryd.ntmps36
    go_wp2
    go_ret
    refine ⟨ret_bool ?_, 0, rfl⟩
    symm
    rw [decide_eq_false_iff_not]
    intro e
    exact HL.out (by rw [e])
end Go.Proofs.YtdncfignegagjaaDoor
