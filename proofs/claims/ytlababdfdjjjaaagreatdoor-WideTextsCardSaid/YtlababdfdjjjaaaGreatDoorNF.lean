import Derived.Test.YtlababdfdjjjaaaGreatDoorNE
import Derived.Deep.RegionHeld3
namespace Go.Proofs.YtlababdfdjjjaaaGreatDoor
open Go.RowKit

theorem Stp.fr {W : World} {g p q r s : Nat} {odd : Bool} (h : Stp W g p q r s odd) (i : Nat) : W.frozen? ⟨g, i, none⟩ = false := by
  have e : W.heap[g]? = some (.cells (stV p q r s odd) 125 (0, 0)) := h
  simp [World.frozen?, e]
/-- Steps written over others. -/
def wrote (W : World) (g p q r s : Nat) (odd : Bool) : World :=
  ((((W.setCell ⟨g, 0, none⟩ (.int .u64 (p : Int))).setCell ⟨g, 1, none⟩ (.int .u64 (q : Int))).setCell ⟨g, 2, none⟩ (.int .u64 (r : Int))).setCell ⟨g, 3, none⟩ (.int .u64 (s : Int))).setCell ⟨g, 4, none⟩ (.bool odd)
theorem Stp.write {W : World} {g p q r s : Nat} {odd : Bool} (h : Stp W g p q r s odd) (p' q' r' s' : Nat) (odd' : Bool) : Stp (wrote W g p' q' r' s' odd') g p' q' r' s' odd' := by
  have e : W.heap[g]? = some (.cells (stV p q r s odd) 125 (0, 0)) := h
  show (wrote W g p' q' r' s' odd').heap[g]? = _
  simp [wrote, World.setCell, Array.getElem?_modify, e, stV]
theorem wrote_below {w W : World} {B g : Nat} (hb : Below B w W) (hg : B ≤ g) (p q r s : Nat) (odd : Bool) : Below B w (wrote W g p q r s odd) :=
  ((((hb.setCell (p := ⟨g, 0, none⟩) hg _).setCell (p := ⟨g, 1, none⟩) hg _).setCell (p := ⟨g, 2, none⟩) hg _).setCell (p := ⟨g, 3, none⟩) hg _).setCell (p := ⟨g, 4, none⟩) hg _
theorem Stp.other {W : World} {g k p q r s : Nat} {odd : Bool} (h : Stp W g p q r s odd) (hne : g ≠ k) (p' q' r' s' : Nat) (odd' : Bool) : Stp (wrote W k p' q' r' s' odd') g p q r s odd := by
  show (wrote W k p' q' r' s' odd').heap[g]? = _
  unfold wrote
  rw [heap_other _ hne, heap_other _ hne, heap_other _ hne, heap_other _ hne, heap_other _ hne]
  exact h
theorem Stp.lt {W : World} {g p q r s : Nat} {odd : Bool} (h : Stp W g p q r s odd) : g < W.heap.size := (Array.getElem?_eq_some_iff.1 (show W.heap[g]? = some _ from h)).1

set_option maxRecDepth 100000 in
theorem some_any (p q r s : Nat) (odd : Bool) (w : World) :
    Calls Tryz.prog 133 #[.agg (stV p q r s odd)] w fun e w' => e = .returned (.bool (decide (0 < r))) ∧ Below w.heap.size w w' := by
  have hst := Stp.new w p q r s odd
  have c2 := hst.c2
  have hd : decide ((0 : Int) < (r : Int)) = decide (0 < r) := by simp
  simp only [stV] at c2 ⊢
  clear hst
  go_enter Tryz.func133, Tryz.ntmps133
  go_wp2
  go_ret
  exact ⟨by rw [← hd]; rfl, (Below.refl _ w).alloc (Nat.le_refl _) _⟩

/-- What stepsOf promises of its steps. -/
structure Sure (a b p q r s : Nat) (odd : Bool) : Prop where
  lp : p < LB
  lq : q < LB
  lr : r < LB
  ls : s < LB
  rs : r ≤ s
  det : if odd then q * r = p * s + 1 else p * s = q * r + 1
  does : 0 < r → ∃ a' b', StepsTo a b p q r s odd a' b' ∧ b' ≤ a'

structure StI (X Y p q r s x y : Nat) (odd : Bool) : Prop where
  le : Lehm X Y p q r s x y odd
  ps : p ≤ s
  qs : q ≤ s
  s1 : 0 < s
  sure : (r = 0 ∧ p = 1 ∧ q = 0 ∧ s = 1) ∨ (s ≤ y ∧ q + s ≤ x - y)
theorem StI.small {X Y p q r s x y : Nat} {odd : Bool} (h : StI X Y p q r s x y odd) (hX : X < 18446744073709551616) : s < LB := by
  rcases h.sure with h1 | ⟨h1, h2⟩
  · rw [LB_eq]; omega
  · have h3 : s * s ≤ s * x := Nat.mul_le_mul_left _ (by omega)
    have h4 := h.le.hX
    rcases Nat.lt_or_ge s LB with h5 | h5
    · exact h5
    · exfalso
      have h6 := Nat.mul_le_mul h5 h5
      have h7 : LB * LB = 18446744073709551616 := rfl
      omega
theorem StI.fine {a b T p q r s x y : Nat} {odd : Bool} (h : StI (a / T) (b / T) p q r s x y odd) (hT : 0 < T) (hX : a / T < 18446744073709551616) : Sure a b p q r s odd := by
  have hs := h.small hX
  have h1 := h.ps
  have h2 := h.qs
  have h3 := h.le.rs
  refine ⟨by omega, by omega, by omega, hs, h3, h.le.det, fun hr => ?_⟩
  rcases h.sure with h4 | ⟨h4, h5⟩
  · omega
  · exact steps_sure hT h.le h4 h5
theorem StI.first {X Y : Nat} (h : Y ≤ X) : StI X Y 1 0 0 1 X Y false := ⟨lehm_start h, by omega, by omega, by omega, .inl ⟨rfl, rfl, rfl, rfl⟩⟩
/-- What the next steps are. -/
theorem StI.then {X Y p q r s x y : Nat} {odd : Bool} (h : StI X Y p q r s x y odd) (hy : 0 < y) (hX : X < 18446744073709551616) :
    Lehm X Y r s (p + x / y * r) (q + x / y * s) y (x % y) (!odd) ∧ r ≤ q + x / y * s ∧ s ≤ q + x / y * s ∧ p + x / y * r < 18446744073709551616 ∧ q + x / y * s < 18446744073709551616 := by
  have hl := lehm_then h.le hy
  have hn : 1 ≤ x / y := (Nat.one_le_div_iff hy).2 h.le.yx
  have h1 : s ≤ x / y * s := Nat.le_mul_of_pos_left _ (by omega)
  have h2 := h.le.rs
  have h3 := hl.hX
  have h4 := hl.rs
  have h5 : q + x / y * s ≤ (q + x / y * s) * y := Nat.le_mul_of_pos_right _ hy
  refine ⟨hl, by omega, by omega, ?_, ?_⟩
  · omega
  · omega
theorem StI.next {X Y p q r s x y : Nat} {odd : Bool} (h : StI X Y p q r s x y odd) (hy : 0 < y) (hX : X < 18446744073709551616) (h1 : q + x / y * s ≤ x % y) (h2 : s + (q + x / y * s) ≤ y - x % y) :
    StI X Y r s (p + x / y * r) (q + x / y * s) y (x % y) (!odd) := by
  obtain ⟨hl, a1, a2, -, -⟩ := h.then hy hX
  exact ⟨hl, a1, a2, Nat.lt_of_lt_of_le h.s1 a2, .inr ⟨h1, h2⟩⟩

def SoRel (w : World) (g : Nat) (X Y : Nat) (vx vy : Value) (wr : World) : Prop :=
  ∃ (x y p q r s : Nat) (odd : Bool), vx = .int .u64 (x : Int) ∧ vy = .int .u64 (y : Int) ∧ StI X Y p q r s x y odd ∧ Stp wr g p q r s odd ∧ Stp wr w.heap.size 0 0 0 0 false ∧ Below w.heap.size w wr
def vN : Value → Nat
  | .int _ n => n.toNat
  | _ => 0

/-- What a round holds while the next steps are made. -/
structure SH (w : World) (g p q r s : Nat) (odd : Bool) (W : World) : Prop where
  st : Stp W g p q r s odd
  s0 : Stp W w.heap.size 0 0 0 0 false
  bl : Below w.heap.size w W
theorem SH.drew {w W : World} {g p q r s : Nat} {odd : Bool} (h : SH w g p q r s odd W) : SH w g p q r s odd W.drew := ⟨h.st, h.s0, h.bl.drew⟩
theorem SH.drewN {w W : World} {g p q r s : Nat} {odd : Bool} (h : SH w g p q r s odd W) (n : Nat) : SH w g p q r s odd (W.drewN n) := ⟨h.st, h.s0, h.bl.trans ((below_drewN W n).mono h.bl.size)⟩
theorem SH.below {w W W' : World} {g p q r s : Nat} {odd : Bool} (h : SH w g p q r s odd W) (hb : Below W.heap.size W W') : SH w g p q r s odd W' := ⟨h.st.below hb h.st.lt, h.s0.below hb h.s0.lt, h.bl.trans (hb.mono h.bl.size)⟩
theorem SH.alloc {w W : World} {g p q r s : Nat} {odd : Bool} (h : SH w g p q r s odd W) (o : Obj) : SH w g p q r s odd (W.alloc o) := h.below ((Below.refl _ W).alloc (Nat.le_refl _) o)

structure SoEnd (a b : Nat) (w W : World) (p q r s : Nat) (odd : Bool) : Prop where
  st : Stp W w.heap.size p q r s odd
  su : Sure a b p q r s odd
  bl : Below w.heap.size w W

set_option maxRecDepth 100000 in
set_option maxHeartbeats 4000000 in
theorem stepsOf_any (va vb : Value) (a b : Nat) (w : World) (ha : Num w w.heap.size va a) (hb : Num w w.heap.size vb b) (hla : (dg a).length ≤ 1000000) (hle : b ≤ a) :
    Calls Tryz.prog 132 #[va, vb] w fun e w' => ∃ p q r s odd, e = .returned (.agg (stV p q r s odd)) ∧ Sure a b p q r s odd ∧ Below w.heap.size w w' := by
  obtain ⟨t, ht⟩ : ∃ t, t = bitsOf a - 64 := ⟨_, rfl⟩
  have hX : a / 2 ^ t < 18446744073709551616 := by
    rw [Nat.div_lt_iff_lt_mul (Nat.two_pow_pos t)]
    have h1 := bits_lt a
    have h2 : 2 ^ bitsOf a ≤ 2 ^ (64 + t) := Nat.pow_le_pow_right (by omega) (by omega)
    rw [Nat.pow_add] at h2
    exact Nat.lt_of_lt_of_le h1 h2
  have hYX : b / 2 ^ t ≤ a / 2 ^ t := Nat.div_le_div_right hle
  have hlb : (dg b).length ≤ 1000000 := Nat.le_trans (dg_mono hle) hla
  have hbits : bitsOf a ≤ 32 * (dg a).length := bits_le_iff.2 (by rw [← LBpow]; exact lt_dg a)
  have hln : ∀ W, Below w.heap.size w W → Calls Tryz.prog 71 #[va] W fun e w' => e = .returned (.int .i64 (bitsOf a)) ∧ W = w' := fun W hW => length_any va a W _ (Lim.up ha hW) (by omega)
  have hwa : ∀ W, Below w.heap.size w W → Calls Tryz.prog 72 #[va, .int .i64 (t : Int)] W fun e w' => e = .returned (.int .u64 ((a / 2 ^ t : Nat) : Int)) ∧ Below W.heap.size W w' := fun W hW => word_any va a t W (Lim.up ha hW) (by omega) (by omega) hX
  have hwb : ∀ W, Below w.heap.size w W → Calls Tryz.prog 72 #[vb, .int .i64 (t : Int)] W fun e w' => e = .returned (.int .u64 ((b / 2 ^ t : Nat) : Int)) ∧ Below W.heap.size W w' := fun W hW => word_any vb b t W (Lim.up hb hW) (by omega) (by omega) (Nat.lt_of_le_of_lt hYX hX)
  have hfine : ∀ p q r s x y odd, StI (a / 2 ^ t) (b / 2 ^ t) p q r s x y odd → Sure a b p q r s odd := fun p q r s x y odd h => h.fine (Nat.two_pow_pos t) hX
  obtain ⟨A, capa, rfl, -⟩ := ha.form
  obtain ⟨B, capb, rfl, -⟩ := hb.form
  obtain ⟨Lb, hLb⟩ : ∃ Lb, Lb = bitsOf a := ⟨_, rfl⟩
  rw [← hLb] at hln hbits ht
  have hmax : max ((Lb : Int) - 64) 0 = (t : Int) := by omega
  have hLB1 : Lb ≤ 32000000 := by omega
  have HLN := Lib.hid hln
  have HWA := Lib.hid hwa
  have HWB := Lib.hid hwb
  have HF := Lib.hid hfine
  have HMAX := Lib.hid hmax
  have HX := Lib.hid hX
  have HYX := Lib.hid hYX
  clear ha hb hln hwa hwb hfine hX hYX hle hla hlb hbits hLb ht hmax
  generalize a / 2 ^ t = X at *
  generalize b / 2 ^ t = Y at *
  generalize (dg a).length = la at *
  generalize (dg b).length = lb at *
  go_enter Tryz.func132, Tryz.ntmps132
  go_wp2_with fail
  refine (HLN.out _ ((Below.refl _ w).alloc (Nat.le_refl _) _)).mono ?_
  rintro e w1 ⟨rfl, rfl⟩
  go_wp2_with fail
  rw [HMAX.out]
  have hb1 : Below w.heap.size w (w.alloc (.cells (stV 0 0 0 0 false) 125)) := (Below.refl _ w).alloc (Nat.le_refl _) _
  have hs1 := Stp.new w 0 0 0 0 false
  refine (HWA.out _ hb1).mono ?_
  rintro e w2 ⟨rfl, hb2⟩
  have hs2 := hs1.below hb2 (by simp)
  have hb12 := hb1.trans (hb2.mono hb1.size)
  clear hs1 hb1 hb2
  go_wp2_with fail
  refine (HWB.out _ hb12).mono ?_
  rintro e w3 ⟨rfl, hb3⟩
  have hs3 := hs2.below hb3 (by have := (Array.getElem?_eq_some_iff.1 (show w2.heap[w.heap.size]? = some _ from hs2)).1; exact this)
  have hb13 := hb12.trans (hb3.mono hb12.size)
  clear hs2 hb12 hb3
  go_wp2_with fail
  go_loopw [6, 7] (fun x y wr => SoRel w w3.heap.size X Y x y wr) (fun _ y _ => vN y)
  case atStart =>
    have hb4 : Below w3.heap.size w3 (w3.alloc (.cells (stV 1 0 0 1 false) 125)) := (Below.refl _ w3).alloc (Nat.le_refl _) _
    have hlt : w.heap.size < w3.heap.size := (Array.getElem?_eq_some_iff.1 (show w3.heap[w.heap.size]? = some _ from hs3)).1
    exact ⟨X, Y, 1, 0, 0, 1, false, rfl, rfl, StI.first HYX.out, Stp.new w3 1 0 0 1 false, hs3.below hb4 hlt, hb13.trans (hb4.mono hb13.size)⟩
  case round =>
    obtain ⟨x, y, p, q, r, s, odd, rfl, rfl, hI, hst, hs0, hb⟩ := hrel
    by_cases hy : 0 < y
    · obtain ⟨n, hn⟩ : ∃ n, n = x / y := ⟨_, rfl⟩
      obtain ⟨m, hm⟩ : ∃ m, m = x % y := ⟨_, rfl⟩
      obtain ⟨hl, h1, h2, h3, h4⟩ := hI.then hy HX.out
      have hnx := hI.next hy HX.out
      have hxX : x < 18446744073709551616 := by
        have h5 := hI.le.hX
        have h6 : x ≤ s * x := Nat.le_mul_of_pos_left _ hI.s1
        have := HX.out
        omega
      have hmy : m < y := by rw [hm]; exact Nat.mod_lt x hy
      have hyx := hI.le.yx
      rw [← hn] at hl h1 h2 h3 h4 hnx
      rw [← hm] at hnx
      have e1 : IntKind.u64.wrap ((x : Int) / (y : Int)) = (n : Int) := by
        rw [← Int.natCast_ediv, ← hn, wrap_u]
        have : n ≤ x := by rw [hn]; exact Nat.div_le_self _ _
        omega
      have e2 : (x : Int) % (y : Int) = (m : Int) := by rw [hm]; omega
      have hyne : ((y : Int) == 0) = false := by simp; omega
      have e1t : IntKind.u64.wrap ((x : Int).tdiv (y : Int)) = (n : Int) := by rw [Int.tdiv_eq_ediv_of_nonneg (Int.natCast_nonneg _)]; exact e1
      have hyn2 : ¬ (y : Int) = 0 := by omega
      have hyn3 : ¬ y = 0 := by omega
      have hth := fun W => then_any p q r s n odd W h3 h4
      obtain ⟨r', hr'⟩ : ∃ r', r' = p + n * r := ⟨_, rfl⟩
      obtain ⟨s', hs'⟩ : ∃ s', s' = q + n * s := ⟨_, rfl⟩
      rw [← hr'] at hl h3 hth hnx
      rw [← hs'] at hl h1 h2 h4 hth hnx
      have c0 := hst.c0
      have c1 := hst.c1
      have c2 := hst.c2
      have c3 := hst.c3
      have c4 := hst.c4
      simp only [stV] at hth
      have hsm : s' ≤ m → s' < 4294967296 := by
        intro h
        have h5 := hl.hX
        have h6 : s' * s' ≤ s' * y := Nat.mul_le_mul_left _ (by omega)
        have h7 := HX.out
        rcases Nat.lt_or_ge s' 4294967296 with h8 | h8
        · exact h8
        · exfalso
          have h9 := Nat.mul_le_mul h8 h8
          omega
      have HTH := Lib.hid hth
      have HSM := Lib.hid hsm
      have HNX := Lib.hid hnx
      have HFI := Lib.hid (HF.out _ _ _ _ _ _ _ hI)
      have HI := Lib.hid hI
      have hy1 : (0 : Int) < (y : Int) := by omega
      clear hth hnx hI hl hn hm hr' hs' hsm
      go_wp2_with fail
      have hSH : SH w w3.heap.size p q r s odd wr := ⟨hst, hs0, hb⟩
      refine wp_mono (Q := fun e a' W => e = .normal ∧ ∃ g9, a' =
          { tmps := #[Value.slice A la capa, Value.slice B lb capb, undef, undef,
          Value.pointer (some { block := w.heap.size, off := 0 }), Value.int IntKind.i64 ↑t, Value.int IntKind.u64 ↑x,
          Value.int IntKind.u64 ↑y, Value.pointer (some { block := w3.heap.size, off := 0 }), Value.pointer (some { block := g9, off := 0 }), Value.slice A la capa,
          Value.int IntKind.i64 ↑Lb, Value.int IntKind.i64 (↑Lb - 64), Value.int IntKind.i64 ↑t, Value.slice A la capa,
          Value.int IntKind.i64 ↑t, Value.int IntKind.u64 ↑X, Value.slice B lb capb, Value.int IntKind.i64 ↑t,
          Value.int IntKind.u64 ↑Y,
          Value.agg
            #[Value.int IntKind.u64 1, Value.int IntKind.u64 0, Value.int IntKind.u64 0, Value.int IntKind.u64 1,
              Value.bool false],
          Value.int IntKind.u64 ↑y, Value.bool true,
          Value.agg
            #[Value.int IntKind.u64 ↑p, Value.int IntKind.u64 ↑q, Value.int IntKind.u64 ↑r, Value.int IntKind.u64 ↑s,
              Value.bool odd],
          Value.int IntKind.u64 ↑x, Value.int IntKind.u64 ↑y, Value.int IntKind.u64 ↑n,
          Value.agg
            #[Value.int IntKind.u64 ↑r, Value.int IntKind.u64 ↑s, Value.int IntKind.u64 ↑r', Value.int IntKind.u64 ↑s',
              Value.bool !odd], u28, u29, u30, u31, u32, u33, u34, u35, u36, u37, u38, u39, u40, u41, u42, u43, u44, u45,
          u46, u47, undef], defers := [] } ∧ Stp W g9 r s r' s' (!odd) ∧ SH w w3.heap.size p q r s odd W ∧ w3.heap.size < g9) ?reg ?rest
      case reg =>
        refine wp_region_any (by kernel_rfl) ?_
        change wpAny _ _ _ _ _ _ _ wr.drew
        refine wpAny_take (i := 1) (v := .int .u64 (x : Int)) rfl (by kernel_rfl) (by decide +kernel) (by decide +kernel) (fun c a w h => by cases h.1) (Or.inl ⟨by rfl, fun w => by go_simp⟩) ?_
        refine wpAny_take (i := 2) (v := .int .u64 (y : Int)) rfl (by kernel_rfl) (by decide +kernel) (by decide +kernel) (fun c a w h => by cases h.1) (Or.inl ⟨by rfl, fun w => by go_simp⟩) ?_
        refine wpAny_take (i := 3) (v := .int .u64 (n : Int)) rfl (by kernel_rfl) (by decide +kernel) (by decide +kernel) (fun c a w h => by cases h.1) (Or.inl ⟨by rfl, fun w => by go_simp⟩) ?_
        have hS1 := hSH.drew
        have z0 := hS1.st.c0
        have z1 := hS1.st.c1
        have z2 := hS1.st.c2
        have z3 := hS1.st.c3
        have z4 := hS1.st.c4
        have hlt1 : w3.heap.size < wr.drew.heap.size := hS1.st.lt
        generalize wr.drew = w4 at *
        refine wpAny_ready (rs := [0, 5]) (by decide +kernel) (by simp) ?_
        refine AllReady.cons rfl (fun K hK => ?_) (AllReady.cons rfl (fun K hK => ?_) AllReady.nil)
        · go_simp
          refine hK _ _ ?_; clear hK K
          refine wpAny_ready (rs := [4, 5]) (by decide +kernel) (by simp) ?_
          refine AllReady.cons rfl (fun K hK => ?_) (AllReady.cons rfl (fun K hK => ?_) AllReady.nil)
          · go_simp
            refine (HTH.out _).mono ?_
            rintro e w5 ⟨he, hb5⟩
            subst he
            have hS5 := hS1.below hb5
            refine hK _ _ ?_; clear hK K
            refine wpAny_ready (rs := [5]) (by decide +kernel) (by simp) (AllReady.cons rfl (fun K hK => ?_) AllReady.nil)
            go_simp
            refine hK _ _ ?_; clear hK K
            refine wpAny_ready (rs := [6]) (by decide +kernel) (by simp) (AllReady.cons rfl (fun K hK => ?_) AllReady.nil)
            go_simp
            refine hK _ _ ?_; clear hK K
            refine wpAny_done (by decide +kernel) ?_ _
            exact ⟨rfl, w5.heap.size, rfl, Stp.new w5 r s r' s' (!odd), hS5.alloc _, hS5.st.lt⟩
          · go_simp
            refine hK _ _ ?_; clear hK K
            refine wpAny_ready (rs := [4]) (by decide +kernel) (by simp) (AllReady.cons rfl (fun K hK => ?_) AllReady.nil)
            go_simp
            refine (HTH.out _).mono ?_
            rintro e w5 ⟨he, hb5⟩
            subst he
            have hS5 := (hS1.alloc _).below hb5
            have hz5 : Stp w5 w4.heap.size 0 0 0 0 false := (Stp.new w4 0 0 0 0 false).below hb5 (by simp)
            have t0 := hz5.fr 0; have t1 := hz5.fr 1; have t2 := hz5.fr 2; have t3 := hz5.fr 3; have t4 := hz5.fr 4; have v0 := hz5.c0; have v1 := hz5.c1; have v2 := hz5.c2; have v3 := hz5.c3; have v4 := hz5.c4
            refine hK _ _ ?_; clear hK K
            refine wpAny_ready (rs := [6]) (by decide +kernel) (by simp) (AllReady.cons rfl (fun K hK => ?_) AllReady.nil)
            go_simp
            refine hK _ _ ?_; clear hK K
            refine wpAny_done (by decide +kernel) ?_ _
            exact ⟨rfl, w4.heap.size, rfl, hz5.write r s r' s' (!odd), ⟨hS5.st.other (by omega) _ _ _ _ _, hS5.s0.other (by have := hS1.s0.lt; omega) _ _ _ _ _, wrote_below hS5.bl hS1.bl.size _ _ _ _ _⟩, hlt1⟩
        · go_simp
          refine hK _ _ ?_; clear hK K
          have hS2 := hS1.alloc (.cells (stV 0 0 0 0 false) 125)
          have z0 := hS2.st.c0
          have z1 := hS2.st.c1
          have z2 := hS2.st.c2
          have z3 := hS2.st.c3
          have z4 := hS2.st.c4
          refine wpAny_ready (rs := [0]) (by decide +kernel) (by simp) (AllReady.cons rfl (fun K hK => ?_) AllReady.nil)
          go_simp
          refine hK _ _ ?_; clear hK K
          refine wpAny_ready (rs := [4]) (by decide +kernel) (by simp) (AllReady.cons rfl (fun K hK => ?_) AllReady.nil)
          go_simp
          refine (HTH.out _).mono ?_
          rintro e w5 ⟨he, hb5⟩
          subst he
          have hS5 := hS2.below hb5
          have hz5 : Stp w5 w4.heap.size 0 0 0 0 false := (Stp.new w4 0 0 0 0 false).below hb5 (by simp)
          have t0 := hz5.fr 0; have t1 := hz5.fr 1; have t2 := hz5.fr 2; have t3 := hz5.fr 3; have t4 := hz5.fr 4; have v0 := hz5.c0; have v1 := hz5.c1; have v2 := hz5.c2; have v3 := hz5.c3; have v4 := hz5.c4
          refine hK _ _ ?_; clear hK K
          refine wpAny_ready (rs := [6]) (by decide +kernel) (by simp) (AllReady.cons rfl (fun K hK => ?_) AllReady.nil)
          go_simp
          refine hK _ _ ?_; clear hK K
          refine wpAny_done (by decide +kernel) ?_ _
          exact ⟨rfl, w4.heap.size, rfl, hz5.write r s r' s' (!odd), ⟨hS5.st.other (by omega) _ _ _ _ _, hS5.s0.other (by have := hS1.s0.lt; omega) _ _ _ _ _, wrote_below hS5.bl hS1.bl.size _ _ _ _ _⟩, hlt1⟩
      case rest =>
        rintro e a' W ⟨rfl, g9, rfl, hnx, hSH9, hg9⟩
        clear hSH hst hs0 hb c0 c1 c2 c3 c4
        dsimp only
        have c0 := hSH9.st.c0
        have c1 := hSH9.st.c1
        have c2 := hSH9.st.c2
        have c3 := hSH9.st.c3
        have c4 := hSH9.st.c4
        have n0 := hnx.c0
        have n1 := hnx.c1
        have n2 := hnx.c2
        have n3 := hnx.c3
        have n4 := hnx.c4
        by_cases hb1 : m < s'
        · have d0 := hSH9.s0.c0
          have d1 := hSH9.s0.c1
          have d2 := hSH9.s0.c2
          have d3 := hSH9.s0.c3
          have d4 := hSH9.s0.c4
          have f0 := hSH9.s0.fr 0
          have f1 := hSH9.s0.fr 1
          have f2 := hSH9.s0.fr 2
          have f3 := hSH9.s0.fr 3
          have f4 := hSH9.s0.fr 4
          go_wp2_with fail
          go_quiet (fail)
          go_wp2_with fail
          have hSHd := hSH9.drewN nq
          have hres : SoEnd a b w (wrote (W.drewN nq) w.heap.size p q r s odd) p q r s odd := ⟨hSHd.s0.write p q r s odd, HFI.out, wrote_below hSHd.bl (Nat.le_refl _) p q r s odd⟩
          change bodyPost _ _ _ Exit.ret _ (wrote (W.drewN nq) w.heap.size p q r s odd)
          generalize wrote (W.drewN nq) w.heap.size p q r s odd = W9 at hres ⊢
          have k0 := hres.st.c0
          have k1 := hres.st.c1
          have k2 := hres.st.c2
          have k3 := hres.st.c3
          have k4 := hres.st.c4
          refine bodyPost_ret (v := .agg (stV p q r s odd)) ?_ rfl ⟨p, q, r, s, odd, rfl, hres.su, hres.bl⟩
          simp [results, Tryz.results132, k0, k1, k2, k3, k4, go_sem, stV]
        · have hs1 := HSM.out (by omega)
          have i1 : IntKind.u64.wrap ((y : Int) - (m : Int)) = ((y - m : Nat) : Int) := by rw [← Int.ofNat_sub (by omega), wrap_u]; omega
          have i2 : IntKind.u64.wrap ((s : Int) + (s' : Int)) = ((s + s' : Nat) : Int) := by rw [← Int.natCast_add, wrap_u]; omega
          obtain ⟨dd, hdd⟩ : ∃ dd, dd = y - m := ⟨_, rfl⟩
          obtain ⟨ss, hss⟩ : ∃ ss, ss = s + s' := ⟨_, rfl⟩
          rw [← hdd] at i1
          rw [← hss] at i2
          by_cases hb2 : dd < ss
          · have d0 := hSH9.s0.c0
            have d1 := hSH9.s0.c1
            have d2 := hSH9.s0.c2
            have d3 := hSH9.s0.c3
            have d4 := hSH9.s0.c4
            have f0 := hSH9.s0.fr 0
            have f1 := hSH9.s0.fr 1
            have f2 := hSH9.s0.fr 2
            have f3 := hSH9.s0.fr 3
            have f4 := hSH9.s0.fr 4
            clear hdd hss
            go_wp2_with fail
            go_quiet (fail)
            go_wp2_with fail
            have hSHd := hSH9.drewN nq
            have hres : SoEnd a b w (wrote (W.drewN nq) w.heap.size p q r s odd) p q r s odd := ⟨hSHd.s0.write p q r s odd, HFI.out, wrote_below hSHd.bl (Nat.le_refl _) p q r s odd⟩
            change bodyPost _ _ _ Exit.ret _ (wrote (W.drewN nq) w.heap.size p q r s odd)
            generalize wrote (W.drewN nq) w.heap.size p q r s odd = W9 at hres ⊢
            have k0 := hres.st.c0
            have k1 := hres.st.c1
            have k2 := hres.st.c2
            have k3 := hres.st.c3
            have k4 := hres.st.c4
            refine bodyPost_ret (v := .agg (stV p q r s odd)) ?_ rfl ⟨p, q, r, s, odd, rfl, hres.su, hres.bl⟩
            simp [results, Tryz.results132, k0, k1, k2, k3, k4, go_sem, stV]
          · have f0 := hSH9.st.fr 0
            have f1 := hSH9.st.fr 1
            have f2 := hSH9.st.fr 2
            have f3 := hSH9.st.fr 3
            have f4 := hSH9.st.fr 4
            have hnx2 := HNX.out (by omega) (by omega)
            have HN2 := Lib.hid hnx2
            clear hdd hss hnx2
            go_wp2_with fail
            go_quiet (fail)
            go_wp2_with fail
            rw [e2]
            have hSHd := hSH9.drewN nq
            have hne : w.heap.size ≠ w3.heap.size := by have := hs3.lt; omega
            exact ⟨⟨y, m, r, s, r', s', !odd, rfl, rfl, HN2.out, hSHd.st.write r s r' s' (!odd), hSHd.s0.other hne r s r' s' (!odd), wrote_below hSHd.bl (by have := hs3.lt; omega) r s r' s' (!odd)⟩, by simp [vN]; omega⟩
    · obtain rfl : y = 0 := by omega
      have c0 := hst.c0
      have c1 := hst.c1
      have c2 := hst.c2
      have c3 := hst.c3
      have c4 := hst.c4
      have d0 := hs0.c0
      have d1 := hs0.c1
      have d2 := hs0.c2
      have d3 := hs0.c3
      have d4 := hs0.c4
      have f0 := hs0.fr 0
      have f1 := hs0.fr 1
      have f2 := hs0.fr 2
      have f3 := hs0.fr 3
      have f4 := hs0.fr 4
      have hw := hs0.write p q r s odd
      have hbw := wrote_below hb (Nat.le_refl _) p q r s odd
      have HFI := Lib.hid (HF.out _ _ _ _ _ _ _ hI)
      have HW := Lib.hid hw
      have HBW := Lib.hid hbw
      clear hI hw hbw hb hst hs0
      go_wp2_with fail
      have hres : SoEnd a b w (wrote wr w.heap.size p q r s odd) p q r s odd := ⟨HW.out, HFI.out, HBW.out⟩
      change bodyPost _ _ _ Exit.ret _ (wrote wr w.heap.size p q r s odd)
      generalize wrote wr w.heap.size p q r s odd = W9 at hres ⊢
      have k0 := hres.st.c0
      have k1 := hres.st.c1
      have k2 := hres.st.c2
      have k3 := hres.st.c3
      have k4 := hres.st.c4
      refine bodyPost_ret (v := .agg (stV p q r s odd)) ?_ rfl ⟨p, q, r, s, odd, rfl, hres.su, hres.bl⟩
      simp [results, Tryz.results132, k0, k1, k2, k3, k4, go_sem, stV]
end Go.Proofs.YtlababdfdjjjaaaGreatDoor
namespace Go.Proofs.YtlababdfdjjjaaaGreatDoor
open Go.RowKit

/-- What apply holds while its calls run. -/
structure AH (w : World) (p q r s : Nat) (odd : Bool) (W : World) : Prop where
  st : Stp W w.heap.size p q r s odd
  bl : Below w.heap.size w W
theorem AH.drew {w W : World} {p q r s : Nat} {odd : Bool} (h : AH w p q r s odd W) : AH w p q r s odd W.drew := ⟨h.st, h.bl.drew⟩
theorem AH.below {w W W' : World} {p q r s : Nat} {odd : Bool} (h : AH w p q r s odd W) (hb : Below W.heap.size W W') : AH w p q r s odd W' := ⟨h.st.below hb h.st.lt, h.bl.trans (hb.mono h.bl.size)⟩

set_option maxRecDepth 100000 in
set_option maxHeartbeats 4000000 in
theorem apply_any (va vb : Value) (a b p q r s a' b' : Nat) (odd : Bool) (w : World) (ha : Num w w.heap.size va a) (hb : Num w w.heap.size vb b) (hla : (dg a).length ≤ 1000000) (hlb : (dg b).length ≤ 1000000)
    (hp : p < LB) (hq : q < LB) (hr : r < LB) (hs : s < LB) (hst : StepsTo a b p q r s odd a' b') :
    Calls Tryz.prog 134 #[.agg (stV p q r s odd), va, vb] w fun e w' => ∃ x y, e = .returned (.tuple #[x, y]) ∧ Num w' w'.heap.size x a' ∧ Num w' w'.heap.size y b' ∧ Below w.heap.size w w' := by
  have h1 := Stp.new w p q r s odd
  have hAH : AH w p q r s odd (w.alloc (.cells (stV p q r s odd) 125)) := ⟨h1, (Below.refl _ w).alloc (Nat.le_refl _) _⟩
  have hA : ∀ W, AH w p q r s odd W → Num W W.heap.size va a := fun W h => Lim.up ha h.bl
  have hB : ∀ W, AH w p q r s odd W → Num W W.heap.size vb b := fun W h => Lim.up hb h.bl
  have c0 := h1.c0
  have c1 := h1.c1
  have c2 := h1.c2
  have c3 := h1.c3
  have c4 := h1.c4
  obtain ⟨A, capa, rfl, -⟩ := ha.form
  obtain ⟨B, capb, rfl, -⟩ := hb.form
  unfold StepsTo at hst
  simp only [stV] at c0 c1 c2 c3 c4 hAH ⊢
  cases odd
  · simp only [Bool.false_eq_true, if_false] at hst
    have hT1 : ∀ W, AH w p q r s false W → Calls Tryz.prog 154 #[.slice A (dg a).length capa, .int .u64 (p : Int), .slice B (dg b).length capb, .int .u64 (q : Int)] W (NumPost W a') := by
      intro W hW
      have := timesLess_any _ _ a b p q W (hA W hW) (hB W hW) (by omega) (by omega) hp hq (by omega)
      rwa [show p * a - q * b = a' by omega] at this
    have hT2 : ∀ W, AH w p q r s false W → Calls Tryz.prog 154 #[.slice B (dg b).length capb, .int .u64 (s : Int), .slice A (dg a).length capa, .int .u64 (r : Int)] W (NumPost W b') := by
      intro W hW
      have := timesLess_any _ _ b a s r W (hB W hW) (hA W hW) (by omega) (by omega) hs hr (by omega)
      rwa [show s * b - r * a = b' by omega] at this
    have HT1 := Lib.hid hT1
    have HT2 := Lib.hid hT2
    clear hT1 hT2 hA hB ha hb hst hp hq hr hs h1 hla hlb
    generalize (dg a).length = la at *
    generalize (dg b).length = lb at *
    go_enter Tryz.func134, Tryz.ntmps134
    go_wp2_with fail
    go_region_held3 (fun w' => AH w p q r s false w' ∧ w'.cell? ⟨w.heap.size, 0, none⟩ = some (.int .u64 (p : Int)) ∧ w'.cell? ⟨w.heap.size, 1, none⟩ = some (.int .u64 (q : Int)) ∧ w'.cell? ⟨w.heap.size, 2, none⟩ = some (.int .u64 (r : Int)) ∧ w'.cell? ⟨w.heap.size, 3, none⟩ = some (.int .u64 (s : Int)))
      (refine ⟨?_, ?_, ?_, ?_, ?_⟩ <;> first | assumption | (exact AH.drew ‹_›) | go_keep)
      (first
        | (go_at_call 154; refine Calls.mono (HT1.out _ (by first | assumption | exact AH.drew ‹_›)) ?_; clear HT1; rintro e w2 ⟨x, he, hx, hbx⟩; subst he; have hS2 := AH.below (by first | assumption | exact AH.drew ‹_›) hbx; have c0' := hS2.st.c0; have c1' := hS2.st.c1; have c2' := hS2.st.c2; have c3' := hS2.st.c3)
        | (go_at_call 154; refine Calls.mono (HT2.out _ (by first | assumption | exact AH.drew ‹_›)) ?_; rintro e w3 ⟨y, he, hy, hby⟩; subst he; have hS3 := AH.below (by first | assumption | exact AH.drew ‹_›) hby; have c0' := hS3.st.c0; have c1' := hS3.st.c1; have c2' := hS3.st.c2; have c3' := hS3.st.c3))
    go_wp2_with fail
    go_ret2
    exact ⟨x, y, rfl, hx.up hby, hy, hS3.bl⟩
  · simp only [if_true] at hst
    have hT1 : ∀ W, AH w p q r s true W → Calls Tryz.prog 154 #[.slice B (dg b).length capb, .int .u64 (q : Int), .slice A (dg a).length capa, .int .u64 (p : Int)] W (NumPost W a') := by
      intro W hW
      have := timesLess_any _ _ b a q p W (hB W hW) (hA W hW) (by omega) (by omega) hq hp (by omega)
      rwa [show q * b - p * a = a' by omega] at this
    have hT2 : ∀ W, AH w p q r s true W → Calls Tryz.prog 154 #[.slice A (dg a).length capa, .int .u64 (r : Int), .slice B (dg b).length capb, .int .u64 (s : Int)] W (NumPost W b') := by
      intro W hW
      have := timesLess_any _ _ a b r s W (hA W hW) (hB W hW) (by omega) (by omega) hr hs (by omega)
      rwa [show r * a - s * b = b' by omega] at this
    have HT1 := Lib.hid hT1
    have HT2 := Lib.hid hT2
    clear hT1 hT2 hA hB ha hb hst hp hq hr hs h1 hla hlb
    generalize (dg a).length = la at *
    generalize (dg b).length = lb at *
    go_enter Tryz.func134, Tryz.ntmps134
    go_wp2_with fail
    go_region_held3 (fun w' => AH w p q r s true w' ∧ w'.cell? ⟨w.heap.size, 0, none⟩ = some (.int .u64 (p : Int)) ∧ w'.cell? ⟨w.heap.size, 1, none⟩ = some (.int .u64 (q : Int)) ∧ w'.cell? ⟨w.heap.size, 2, none⟩ = some (.int .u64 (r : Int)) ∧ w'.cell? ⟨w.heap.size, 3, none⟩ = some (.int .u64 (s : Int)))
      (refine ⟨?_, ?_, ?_, ?_, ?_⟩ <;> first | assumption | (exact AH.drew ‹_›) | go_keep)
      (first
        | (go_at_call 154; refine Calls.mono (HT1.out _ (by first | assumption | exact AH.drew ‹_›)) ?_; clear HT1; rintro e w2 ⟨x, he, hx, hbx⟩; subst he; have hS2 := AH.below (by first | assumption | exact AH.drew ‹_›) hbx; have c0' := hS2.st.c0; have c1' := hS2.st.c1; have c2' := hS2.st.c2; have c3' := hS2.st.c3)
        | (go_at_call 154; refine Calls.mono (HT2.out _ (by first | assumption | exact AH.drew ‹_›)) ?_; rintro e w3 ⟨y, he, hy, hby⟩; subst he; have hS3 := AH.below (by first | assumption | exact AH.drew ‹_›) hby; have c0' := hS3.st.c0; have c1' := hS3.st.c1; have c2' := hS3.st.c2; have c3' := hS3.st.c3))
    go_wp2_with fail
    go_ret2
    exact ⟨x, y, rfl, hx.up hby, hy, hS3.bl⟩
end Go.Proofs.YtlababdfdjjjaaaGreatDoor
namespace Go.Proofs.YtlababdfdjjjaaaGreatDoor
open Go.RowKit

theorem Lim.unique {w : World} {B B' : Nat} {v : Value} {l l' : List Nat} (h : Lim w B v l) (h' : Lim w B' v l') : l = l' := by
  obtain ⟨A, cap, rfl, -⟩ := h.form
  obtain ⟨A', cap', e, -⟩ := h'.form
  injection e with e1 e2 e3
  subst e1 e3
  refine List.ext_getElem? (fun k => ?_)
  by_cases hk : k < l.length
  · obtain ⟨g, o, ea, -, c⟩ := h.cell (List.getElem?_eq_getElem hk)
    have h'' : Lim w B' (.slice A l'.length cap) l' := by rw [← e2]; exact h'
    obtain ⟨g', o', ea', -, c'⟩ := h''.cell (List.getElem?_eq_getElem (show k < l'.length by omega))
    rw [ea] at ea'
    cases ea'
    rw [c] at c'
    injection c' with c'
    injection c' with c1 c2
    have hk' : k < l'.length := by omega
    rw [List.getElem?_eq_getElem hk, List.getElem?_eq_getElem hk']
    congr 1
    omega
  · rw [List.getElem?_eq_none (by omega), List.getElem?_eq_none (by omega)]
theorem Num.unique {w : World} {B B' : Nat} {v : Value} {m n : Nat} (h : Num w B v m) (h' : Num w B' v n) : m = n := dg_inj (Lim.unique h h')
open Classical in
/-- The number that a value is. -/
noncomputable def numOf (w : World) (v : Value) : Nat := if h : ∃ n, Num w w.heap.size v n then Classical.choose h else 0
theorem numOf_eq {w : World} {v : Value} {n : Nat} (h : Num w w.heap.size v n) : numOf w v = n := by
  have hx : ∃ n, Num w w.heap.size v n := ⟨n, h⟩
  unfold numOf
  rw [dif_pos hx]
  exact Num.unique (Classical.choose_spec hx) h

theorem gcd_step (a b : Nat) : Nat.gcd b (a % b) = Nat.gcd a b := by rw [Nat.gcd_comm a b, Nat.gcd_rec b a, Nat.gcd_comm]
/-- Steps make the numbers less. -/
theorem steps_less {a b p q r s a' b' : Nat} {odd : Bool} (ha : 0 < a) (hd : if odd then q * r = p * s + 1 else p * s = q * r + 1) (hrs : r ≤ s) (hr : 0 < r) (h : StepsTo a b p q r s odd a' b') (hle : b' ≤ a') : a' + b' < a + b ∧ a' ≤ a := by
  obtain ⟨e1, e2⟩ := steps_back hd h
  have ha' : 0 < a' := by
    rcases Nat.eq_zero_or_pos a' with h0 | h0
    · subst h0
      have : b' = 0 := by omega
      subst this
      rw [Nat.mul_zero, Nat.mul_zero] at e1
      omega
    · exact h0
  have h1 : a' ≤ s * a' := Nat.le_mul_of_pos_left _ (by omega)
  have h2 : a' ≤ r * a' := Nat.le_mul_of_pos_left _ hr
  have h3 : b' ≤ q * b' + p * b' := by
    rw [← Nat.add_mul]
    refine Nat.le_mul_of_pos_left _ ?_
    rcases Nat.eq_zero_or_pos q with hq | hq
    · rcases Nat.eq_zero_or_pos p with hp | hp
      · subst hq hp; cases odd <;> simp at hd
      · omega
    · omega
  omega

def GcRel (w : World) (G M : Nat) (va vb : Value) (wr : World) : Prop :=
  ∃ a b : Nat, Num wr wr.heap.size va a ∧ Num wr wr.heap.size vb b ∧ b ≤ a ∧ a ≤ M ∧ Nat.gcd a b = G ∧ Below w.heap.size w wr

set_option maxRecDepth 100000 in
set_option maxHeartbeats 4000000 in
theorem common_any (va vb : Value) (a b : Nat) (w : World) (ha : Num w w.heap.size va a) (hb : Num w w.heap.size vb b) (hla : (dg a).length ≤ 1000000) (hlb : (dg b).length ≤ 1000000) :
    Calls Tryz.prog 100 #[va, vb] w (NumPost w (Nat.gcd a b)) := by
  obtain ⟨M, hM⟩ : ∃ M, M = max a b := ⟨_, rfl⟩
  have hlM : ∀ x, x ≤ M → (dg x).length ≤ 1000000 := by
    intro x hx
    have h1 := dg_mono hx
    rcases Nat.le_total a b with h | h
    · rw [show M = b by omega] at h1; omega
    · rw [show M = a by omega] at h1; omega
  have hc := compare_any va vb a b w ha hb (by omega)
  have hu : ∀ w1, Drawn w w1 → Num w1 w1.heap.size va a ∧ Num w1 w1.heap.size vb b ∧ Below w.heap.size w w1 := by
    intro w1 hd
    obtain ⟨q, rfl⟩ := hd
    exact ⟨Lim.up ha (below_drewN w q), Lim.up hb (below_drewN w q), below_drewN w q⟩
  obtain ⟨A, capa, rfl, -⟩ := ha.form
  obtain ⟨B, capb, rfl, -⟩ := hb.form
  generalize (dg a).length = la at *
  generalize (dg b).length = lb at *
  obtain ⟨c, hcc, hcase⟩ : ∃ c : Int, cmpI a b = c ∧ ((c = -1 ∧ a ≤ b) ∨ (0 ≤ c ∧ b ≤ a)) := by
    rcases Nat.lt_trichotomy a b with h | h | h
    · exact ⟨-1, cmpI_lt h, .inl ⟨rfl, by omega⟩⟩
    · exact ⟨0, cmpI_eq h, .inr ⟨by omega, by omega⟩⟩
    · exact ⟨1, cmpI_gt h, .inr ⟨by omega, by omega⟩⟩
  rw [hcc] at hc
  have HC := Lib.hid hc
  have HU := Lib.hid hu
  have HLM := Lib.hid hlM
  have HM := Lib.hid hM
  clear ha hb hc hu hlM hM hcc hla hlb
  obtain ⟨va, hva⟩ : ∃ va, va = Value.slice A la capa := ⟨_, rfl⟩
  obtain ⟨vb, hvb⟩ : ∃ vb, vb = Value.slice B lb capb := ⟨_, rfl⟩
  rcases hcase with ⟨rfl, hle⟩ | ⟨hc0, hle⟩
  · go_enter Tryz.func100, Tryz.ntmps100
    go_wp2_with fail
    refine HC.out.mono ?_
    rintro e w1 ⟨rfl, hd⟩
    obtain ⟨hu1, hu2, hu3⟩ := HU.out w1 hd
    go_wp2_with fail
    go_loopw [0, 1] (fun x y wr => GcRel w (Nat.gcd a b) M x y wr) (fun x y wr => numOf wr x + numOf wr y)
    case atStart => exact ⟨b, a, hu2, hu1, hle, by have := HM.out; omega, Nat.gcd_comm b a, hu3⟩
    case round =>
      obtain ⟨a', b', hx, hy, hle', hm, hg, hb⟩ := hrel
      have e1 := numOf_eq hx
      have e2 := numOf_eq hy
      have hz := isZero_any _ b' wr _ hy
      by_cases hb0 : b' = 0
      · subst hb0
        have hcl := clone_any _ _ wr hx (by have := HLM.out a' hm; omega)
        have hga : a' = Nat.gcd a b := by rw [← hg, Nat.gcd_zero_right]
        obtain ⟨A', capa', rfl, -⟩ := hx.form
        obtain ⟨B', capb', rfl, -⟩ := hy.form
        have HZ := Lib.hid hz
        have HCL := Lib.hid hcl
        have HGA := Lib.hid hga
        clear hx hy hz hcl hga hg e1 e2 hm hle'
        generalize (dg 0).length = l0 at *
        obtain ⟨l1, hl1⟩ : ∃ l1, l1 = (dg a').length := ⟨_, rfl⟩
        have HL1 := Lib.hid hl1
        rw [← hl1] at HCL ⊢
        clear hl1
        go_wp2_with fail
        refine HZ.out.mono ?_
        rintro e w2 ⟨rfl, rfl⟩
        go_wp2_with fail
        refine HCL.out.mono ?_
        rintro e w3 ⟨he, hrow, hb3⟩
        subst he
        go_wp2_with fail
        go_ret
        refine ⟨_, rfl, ?_, hb.trans (hb3.mono hb.size)⟩
        have h9 := hrow.whole (ok_dg a') l1 (by rw [HL1.out]; exact Nat.le_refl _)
        rw [← HL1.out, HGA.out] at h9
        exact h9
      · have hso := stepsOf_any _ _ a' b' wr hx hy (HLM.out a' hm) hle'
        have ha0 : 0 < a' := by omega
        have hap : ∀ p q r s odd a2 b2 W, Below wr.heap.size wr W → p < LB → q < LB → r < LB → s < LB → StepsTo a' b' p q r s odd a2 b2 → _ := fun p q r s odd a2 b2 W hW h1 h2 h3 h4 h5 => apply_any _ _ a' b' p q r s a2 b2 odd W (Lim.up hx hW) (Lim.up hy hW) (HLM.out a' hm) (HLM.out b' (by omega)) h1 h2 h3 h4 h5
        have hdv : ∀ W, Below wr.heap.size wr W → _ := fun W hW => divide_any _ _ a' b' W (Lim.up hx hW) (Lim.up hy hW) (HLM.out a' hm) hb0
        have hyw : ∀ W, Below wr.heap.size wr W → Num W W.heap.size _ b' := fun W hW => Lim.up hy hW
        rw [decide_eq_false hb0] at hz
        obtain ⟨A', capa', rfl, -⟩ := hx.form
        obtain ⟨B', capb', rfl, -⟩ := hy.form
        have HZ := Lib.hid hz
        have HSO := Lib.hid hso
        have HAP := Lib.hid hap
        have HDV := Lib.hid hdv
        have HYW := Lib.hid hyw
        have E1 := Lib.hid e1
        have E2 := Lib.hid e2
        have HG := Lib.hid hg
        clear hx hy hz hso hap hdv hyw e1 e2 hg
        generalize (dg a').length = l1 at *
        generalize (dg b').length = l2 at *
        go_wp2_with fail
        refine HZ.out.mono ?_
        rintro e w2 ⟨rfl, rfl⟩
        go_wp2_with fail
        refine HSO.out.mono ?_
        rintro e w3 ⟨p, q, r, s, odd, he, hsu, hb3⟩
        subst he
        simp only [stV]
        go_wp2_with fail
        have hst3 := Stp.new w3 p q r s odd
        have hb4 : Below wr.heap.size wr (w3.alloc (.cells (stV p q r s odd) 125)) := hb3.trans (((Below.refl _ w3).alloc (Nat.le_refl _) _).mono hb3.size)
        have hsm := some_any p q r s odd (w3.alloc (.cells (stV p q r s odd) 125))
        simp only [stV] at hsm hst3 hb4
        refine hsm.mono ?_
        rintro e w5 ⟨he, hb5⟩
        subst he
        have hst5 := hst3.below hb5 hst3.lt
        have hbw5 := hb4.trans (hb5.mono hb4.size)
        have c0 := hst5.c0
        have c1 := hst5.c1
        have c2 := hst5.c2
        have c3 := hst5.c3
        have c4 := hst5.c4
        clear hsm hst3 hst5 hb5 hb4 hb3
        by_cases hr : 0 < r
        · obtain ⟨a2, b2, hto, hle2⟩ := hsu.does hr
          have hless := steps_less ha0 hsu.det hsu.rs hr hto hle2
          have hgg := steps_gcd hsu.det hto
          have happ := HAP.out p q r s odd a2 b2 w5 hbw5 hsu.lp hsu.lq hsu.lr hsu.ls hto
          simp only [stV] at happ
          have HAPP := Lib.hid happ
          rw [decide_eq_true hr]
          clear happ
          go_wp2_with fail
          refine HAPP.out.mono ?_
          rintro e w6 ⟨x, y, he, hx, hy, hb6⟩
          subst he
          have hbw6 := hbw5.trans (hb6.mono hbw5.size)
          have hrel : GcRel w (Nat.gcd a b) M x y w6 := ⟨a2, b2, hx, hy, hle2, Nat.le_trans hless.2 hm, by rw [hgg]; exact HG.out, hb.trans (hbw6.mono hb.size)⟩
          have hmea : numOf w6 x + numOf w6 y < numOf wr (Value.slice A' l1 capa') + numOf wr (Value.slice B' l2 capb') := by
            rw [numOf_eq hx, numOf_eq hy, E1.out, E2.out]; exact hless.1
          have HREL := Lib.hid hrel
          have HMEA := Lib.hid hmea
          clear hrel hmea hx hy hgg hless hto
          go_wp2_with fail
          exact ⟨HREL.out, HMEA.out⟩
        · rw [decide_eq_false hr]
          go_wp2_with fail
          refine (HDV.out w5 hbw5).mono ?_
          rintro e w6 ⟨qq, rr, he, hq, hrm, hb6⟩
          subst he
          have hbw6 := hbw5.trans (hb6.mono hbw5.size)
          have hy6 := HYW.out w6 hbw6
          have hml : a' % b' < b' := Nat.mod_lt _ (by omega)
          have hrel : GcRel w (Nat.gcd a b) M (Value.slice B' l2 capb') rr w6 := ⟨b', a' % b', hy6, hrm, by omega, by omega, by rw [gcd_step]; exact HG.out, hb.trans (hbw6.mono hb.size)⟩
          have hmea : numOf w6 (Value.slice B' l2 capb') + numOf w6 rr < numOf wr (Value.slice A' l1 capa') + numOf wr (Value.slice B' l2 capb') := by
            rw [numOf_eq hy6, numOf_eq hrm, E1.out, E2.out]; omega
          have HREL := Lib.hid hrel
          have HMEA := Lib.hid hmea
          clear hrel hmea hq hrm hy6 hml
          go_wp2_with fail
          exact ⟨HREL.out, HMEA.out⟩
  · have q1 : decide (c < 0) = false := decide_eq_false (by omega)
    go_enter Tryz.func100, Tryz.ntmps100
    go_wp2_with fail
    refine HC.out.mono ?_
    rintro e w1 ⟨rfl, hd⟩
    obtain ⟨hu1, hu2, hu3⟩ := HU.out w1 hd
    go_wp2_with fail
    go_loopw [0, 1] (fun x y wr => GcRel w (Nat.gcd a b) M x y wr) (fun x y wr => numOf wr x + numOf wr y)
    case atStart => exact ⟨a, b, hu1, hu2, hle, by have := HM.out; omega, rfl, hu3⟩
    case round =>
      obtain ⟨a', b', hx, hy, hle', hm, hg, hb⟩ := hrel
      have e1 := numOf_eq hx
      have e2 := numOf_eq hy
      have hz := isZero_any _ b' wr _ hy
      by_cases hb0 : b' = 0
      · subst hb0
        have hcl := clone_any _ _ wr hx (by have := HLM.out a' hm; omega)
        have hga : a' = Nat.gcd a b := by rw [← hg, Nat.gcd_zero_right]
        obtain ⟨A', capa', rfl, -⟩ := hx.form
        obtain ⟨B', capb', rfl, -⟩ := hy.form
        have HZ := Lib.hid hz
        have HCL := Lib.hid hcl
        have HGA := Lib.hid hga
        clear hx hy hz hcl hga hg e1 e2 hm hle'
        generalize (dg 0).length = l0 at *
        obtain ⟨l1, hl1⟩ : ∃ l1, l1 = (dg a').length := ⟨_, rfl⟩
        have HL1 := Lib.hid hl1
        rw [← hl1] at HCL ⊢
        clear hl1
        go_wp2_with fail
        refine HZ.out.mono ?_
        rintro e w2 ⟨rfl, rfl⟩
        go_wp2_with fail
        refine HCL.out.mono ?_
        rintro e w3 ⟨he, hrow, hb3⟩
        subst he
        go_wp2_with fail
        go_ret
        refine ⟨_, rfl, ?_, hb.trans (hb3.mono hb.size)⟩
        have h9 := hrow.whole (ok_dg a') l1 (by rw [HL1.out]; exact Nat.le_refl _)
        rw [← HL1.out, HGA.out] at h9
        exact h9
      · have hso := stepsOf_any _ _ a' b' wr hx hy (HLM.out a' hm) hle'
        have ha0 : 0 < a' := by omega
        have hap : ∀ p q r s odd a2 b2 W, Below wr.heap.size wr W → p < LB → q < LB → r < LB → s < LB → StepsTo a' b' p q r s odd a2 b2 → _ := fun p q r s odd a2 b2 W hW h1 h2 h3 h4 h5 => apply_any _ _ a' b' p q r s a2 b2 odd W (Lim.up hx hW) (Lim.up hy hW) (HLM.out a' hm) (HLM.out b' (by omega)) h1 h2 h3 h4 h5
        have hdv : ∀ W, Below wr.heap.size wr W → _ := fun W hW => divide_any _ _ a' b' W (Lim.up hx hW) (Lim.up hy hW) (HLM.out a' hm) hb0
        have hyw : ∀ W, Below wr.heap.size wr W → Num W W.heap.size _ b' := fun W hW => Lim.up hy hW
        rw [decide_eq_false hb0] at hz
        obtain ⟨A', capa', rfl, -⟩ := hx.form
        obtain ⟨B', capb', rfl, -⟩ := hy.form
        have HZ := Lib.hid hz
        have HSO := Lib.hid hso
        have HAP := Lib.hid hap
        have HDV := Lib.hid hdv
        have HYW := Lib.hid hyw
        have E1 := Lib.hid e1
        have E2 := Lib.hid e2
        have HG := Lib.hid hg
        clear hx hy hz hso hap hdv hyw e1 e2 hg
        generalize (dg a').length = l1 at *
        generalize (dg b').length = l2 at *
        go_wp2_with fail
        refine HZ.out.mono ?_
        rintro e w2 ⟨rfl, rfl⟩
        go_wp2_with fail
        refine HSO.out.mono ?_
        rintro e w3 ⟨p, q, r, s, odd, he, hsu, hb3⟩
        subst he
        simp only [stV]
        go_wp2_with fail
        have hst3 := Stp.new w3 p q r s odd
        have hb4 : Below wr.heap.size wr (w3.alloc (.cells (stV p q r s odd) 125)) := hb3.trans (((Below.refl _ w3).alloc (Nat.le_refl _) _).mono hb3.size)
        have hsm := some_any p q r s odd (w3.alloc (.cells (stV p q r s odd) 125))
        simp only [stV] at hsm hst3 hb4
        refine hsm.mono ?_
        rintro e w5 ⟨he, hb5⟩
        subst he
        have hst5 := hst3.below hb5 hst3.lt
        have hbw5 := hb4.trans (hb5.mono hb4.size)
        have c0 := hst5.c0
        have c1 := hst5.c1
        have c2 := hst5.c2
        have c3 := hst5.c3
        have c4 := hst5.c4
        clear hsm hst3 hst5 hb5 hb4 hb3
        by_cases hr : 0 < r
        · obtain ⟨a2, b2, hto, hle2⟩ := hsu.does hr
          have hless := steps_less ha0 hsu.det hsu.rs hr hto hle2
          have hgg := steps_gcd hsu.det hto
          have happ := HAP.out p q r s odd a2 b2 w5 hbw5 hsu.lp hsu.lq hsu.lr hsu.ls hto
          simp only [stV] at happ
          have HAPP := Lib.hid happ
          rw [decide_eq_true hr]
          clear happ
          go_wp2_with fail
          refine HAPP.out.mono ?_
          rintro e w6 ⟨x, y, he, hx, hy, hb6⟩
          subst he
          have hbw6 := hbw5.trans (hb6.mono hbw5.size)
          have hrel : GcRel w (Nat.gcd a b) M x y w6 := ⟨a2, b2, hx, hy, hle2, Nat.le_trans hless.2 hm, by rw [hgg]; exact HG.out, hb.trans (hbw6.mono hb.size)⟩
          have hmea : numOf w6 x + numOf w6 y < numOf wr (Value.slice A' l1 capa') + numOf wr (Value.slice B' l2 capb') := by
            rw [numOf_eq hx, numOf_eq hy, E1.out, E2.out]; exact hless.1
          have HREL := Lib.hid hrel
          have HMEA := Lib.hid hmea
          clear hrel hmea hx hy hgg hless hto
          go_wp2_with fail
          exact ⟨HREL.out, HMEA.out⟩
        · rw [decide_eq_false hr]
          go_wp2_with fail
          refine (HDV.out w5 hbw5).mono ?_
          rintro e w6 ⟨qq, rr, he, hq, hrm, hb6⟩
          subst he
          have hbw6 := hbw5.trans (hb6.mono hbw5.size)
          have hy6 := HYW.out w6 hbw6
          have hml : a' % b' < b' := Nat.mod_lt _ (by omega)
          have hrel : GcRel w (Nat.gcd a b) M (Value.slice B' l2 capb') rr w6 := ⟨b', a' % b', hy6, hrm, by omega, by omega, by rw [gcd_step]; exact HG.out, hb.trans (hbw6.mono hb.size)⟩
          have hmea : numOf w6 (Value.slice B' l2 capb') + numOf w6 rr < numOf wr (Value.slice A' l1 capa') + numOf wr (Value.slice B' l2 capb') := by
            rw [numOf_eq hy6, numOf_eq hrm, E1.out, E2.out]; omega
          have HREL := Lib.hid hrel
          have HMEA := Lib.hid hmea
          clear hrel hmea hq hrm hy6 hml
          go_wp2_with fail
          exact ⟨HREL.out, HMEA.out⟩
end Go.Proofs.YtlababdfdjjjaaaGreatDoor
