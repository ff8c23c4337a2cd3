import Derived.Test.YtkoghdgfllichaaDoorKA6
namespace Go.Proofs.YtkoghdgfllichaaDoor
open Go.RowKit

theorem TmC.up {w w' : World} {v : Value} {l : List (Nat × Int)} (h : TmC w w.heap.size v l) (hb : Below w.heap.size w w') : TmC w' w'.heap.size v l := by
  obtain ⟨A, cap, e, hc, hh⟩ := h.keep hb
  refine ⟨A, cap, e, hc, fun hne => ?_⟩
  obtain ⟨g, o, e2, hg, hx⟩ := hh hne
  exact ⟨g, o, e2, Nat.lt_of_lt_of_le hg hb.size, hx⟩
/-- The estimate of a list that is in the bounds. -/
theorem est_ok {l : List (Nat × Int)} {k : Nat} (h : SignOk l k) {v : Value} (W : Nat) (w : World) (hv : TmC w w.heap.size v l) (hW : 1 ≤ W) (hW2 : W ≤ 17592186044416) :
    Calls Tryd.prog 70 #[v, .int .i64 (W : Int)] w fun e w' => ∃ r : Int, e = .returned (.int .i64 r) ∧ ((r ≠ 0 → r = sgnP l) ∧ (sgnP l = 0 → r = 0) ∧ (sgnP l ≠ 0 → 2 ^ k ≤ W → r ≠ 0)) ∧ Below w.heap.size w w' := by
  refine (estimate_any v l W w hv h.n (by rw [absA_nA]; have := h.a; omega) h.w h.len hW hW2).mono ?_
  rintro e w' ⟨r, he, hr, hb⟩
  exact ⟨r, he, ⟨est_sound (h.good hW) hr, est_zero (h.good hW) hr, fun hs hk => h.enough hk hr hs⟩, hb⟩
def SgRel (w : World) (l : List (Nat × Int)) (k : Nat) (sv wv : Value) (wr : World) : Prop :=
  ∃ (j : Nat) (r : Int), wv = .int .i64 ((2 ^ j : Nat) : Int) ∧ sv = .int .i64 r ∧ 1 ≤ j ∧ j ≤ k + 1 ∧ (r ≠ 0 → r = sgnP l) ∧ (r = 0 → j ≤ k) ∧ Below w.heap.size w wr
theorem two_le44 {j : Nat} (h : j ≤ 44) : 2 ^ j ≤ 17592186044416 := Nat.le_trans (Nat.pow_le_pow_right (by decide) h) (by decide)
set_option maxRecDepth 100000 in
set_option maxHeartbeats 2000000 in
theorem sign_any (v : Value) (l : List (Nat × Int)) (k : Nat) (w : World) (hv : TmC w w.heap.size v l) (h : SignOk l k) :
    Calls Tryd.prog 33 #[v] w fun e w' => e = .returned (.int .i64 (sgnP l)) ∧ Below w.heap.size w w' := by
  have hest := est_ok h 1 w hv (by omega) (by omega)
  obtain ⟨B, hB⟩ : ∃ B, B = 9200000000000000000 := ⟨_, rfl⟩
  have hone := fun W hW => isOne_any v l B W hW h.n (h.all (by omega)) (fun x hx => by have := nA_mem hx; have := h.a; omega) (by omega) h.len
  clear hB
  have hesw := fun (W : Nat) W' hW' => est_ok h (v := v) W W' hW'
  have HEST := Lib.hid hest
  have HONE := Lib.hid hone
  have HESW := Lib.hid hesw
  have HV := Lib.hid hv
  have hk44 := h.k
  clear hest hone hesw hv h
  go_enter Tryd.func33, Tryd.ntmps33
  go_wp2_with fail
  refine HEST.out.mono ?_
  rintro e w1 ⟨r, he, ⟨p1, p2, p3⟩, hb1⟩
  subst he
  by_cases hr : r = 0
  · subst hr
    have HB1 := Lib.hid hb1
    clear hb1 p1
    go_wp2_with fail
    refine (HONE.out w1 (HV.out.up HB1.out)).mono ?_
    rintro e w2 ⟨he, hb2⟩
    subst he
    have hB2 : Below w.heap.size w w2 := HB1.out.trans (hb2.mono HB1.out.size)
    have HB2 := Lib.hid hB2
    clear hb2 hB2
    by_cases hs : sgnP l = 0
    · have hd : decide (sgnP l = 0) = true := by rw [decide_eq_true_iff]; exact hs
      rw [hd]
      have HS := Lib.hid hs
      clear hs hd p2 p3
      go_wp2
      go_ret
      exact ⟨by rw [HS.out]; rfl, HB2.out⟩
    · have hd : decide (sgnP l = 0) = false := by rw [decide_eq_false_iff_not]; exact hs
      rw [hd]
      have hk1 : 1 ≤ k := by
        rcases Nat.eq_zero_or_pos k with h | h
        · exact absurd rfl (p3 hs (by rw [h]; decide))
        · exact h
      have HS := Lib.hid hs
      clear hs hd p2 p3
      go_wp2
      go_loopw [3, 4] (fun sv wv wr => SgRel w l k sv wv wr) (fun _ wv _ => 70368744177664 - (intOf wv).toNat)
      case atStart => exact ⟨1, 0, rfl, rfl, Nat.le_refl _, by omega, fun h => absurd rfl h, fun _ => hk1, HB2.out⟩
      case round =>
        obtain ⟨j, r, rfl, rfl, hj1, hj2, hr1, hr2, hb⟩ := hrel
        by_cases hr : r = 0
        · subst hr
          have hjk := hr2 rfl
          have hw := two_le44 (j := j) (by omega)
          have hpos : 1 ≤ 2 ^ j := Nat.pow_pos (by omega)
          have hnext : 2 ^ (j + 1) = 2 ^ j * 2 := Nat.pow_succ 2 j
          have hpk : k < j + 1 → 2 ^ k ≤ 2 ^ j := fun h => Nat.pow_le_pow_right (by decide) (by omega)
          obtain ⟨P, hP⟩ : ∃ P, P = 2 ^ j := ⟨_, rfl⟩
          rw [← hP] at hw hpos hnext hpk ⊢
          have HP := Lib.hid hP
          have HNX := Lib.hid hnext
          have HPK := Lib.hid hpk
          have HB := Lib.hid hb
          clear hP hnext hpk hb hr1 hr2
          go_wp2_with fail
          refine (HESW.out P wr (HV.out.up HB.out) hpos hw).mono ?_
          rintro e w3 ⟨r3, he, ⟨q1, q2, q3⟩, hb3⟩
          subst he
          have hm1 : (P : Int) * 2 = ((P * 2 : Nat) : Int) := by omega
          obtain ⟨P2, hP2⟩ : ∃ P2, P2 = P * 2 := ⟨_, rfl⟩
          rw [← hP2] at hm1
          have hm2 : IntKind.i64.wrap (P2 : Int) = (P2 : Int) := IntWalk.i64_in _ (by omega)
          have Q1 := Lib.hid q1
          have Q3 := Lib.hid q3
          have HP2 := Lib.hid hP2
          clear q1 q2 q3 hP2
          go_wp2
          refine ⟨⟨j + 1, r3, ?_, rfl, by omega, by omega, Q1.out, fun h0 => ?_, HB.out.trans (hb3.mono HB.out.size)⟩, ?_⟩
          · rw [HNX.out, ← HP2.out]
          · rcases Nat.lt_or_ge k (j + 1) with h | h
            · exact absurd h0 (Q3.out HS.out (HPK.out h))
            · exact h
          · have := HP2.out
            simp [intOf]
            omega
        · have hrb : (r == 0) = false := beq_false_of_ne hr
          have hr3 := hr1 hr
          clear hr1 hr2
          go_wp2
          go_ret
          exact ⟨by rw [← hr3]; rfl, hb⟩
  · have hr2 : (r != 0) = true := by simp [hr]
    have hr3 := p1 hr
    clear p1 p2 p3
    go_wp2
    go_ret
    exact ⟨rfl, hb1⟩
end Go.Proofs.YtkoghdgfllichaaDoor
namespace Go.Proofs.YtkoghdgfllichaaDoor
open Go.RowKit

def TmI (w : World) (B : Nat) (v : Value) (l : List (Int × Int)) : Prop :=
  ∃ A cap, v = .slice A l.length cap ∧ l.length ≤ cap ∧ (l ≠ [] → ∃ g o, A = some ⟨g, o, none⟩ ∧ g < B ∧ ∀ i x, l[i]? = some x → w.cell? ⟨g, o + i * 2, none⟩ = some (.int .i64 x.1) ∧ w.cell? ⟨g, o + i * 2 + 1, none⟩ = some (.int .i64 x.2))
theorem TmI.keep {w w' : World} {B : Nat} {v : Value} {l : List (Int × Int)} (h : TmI w B v l) (hb : Below B w w') : TmI w' B v l := by
  obtain ⟨A, cap, e, hc, h⟩ := h
  refine ⟨A, cap, e, hc, fun hne => ?_⟩
  obtain ⟨g, o, e2, hg, hx⟩ := h hne
  exact ⟨g, o, e2, hg, fun i x hi => ⟨(hb.cell (p := ⟨g, _, none⟩) hg).trans (hx i x hi).1, (hb.cell (p := ⟨g, _, none⟩) hg).trans (hx i x hi).2⟩⟩
def termOk (x : Int × Int) : Bool := wiB x.1 1 1000000000000 && wiB x.2 (-1000000000) 1000000000
/-- The error of bad terms. -/
def examE (l : List (Int × Int)) : Int := if 16 < l.length then 3 else if l.all termOk then 0 else 2
def natT (l : List (Int × Int)) : List (Nat × Int) := l.map fun x => (x.1.toNat, x.2)
theorem natT_valid {l : List (Int × Int)} (h : examE l = 0) : validL (natT l) := by
  unfold examE at h
  split at h
  · cases h
  · split at h
    · rename_i h1 h2
      refine ⟨by simp [natT]; omega, fun x hx => ?_⟩
      simp only [natT, List.mem_map] at hx
      obtain ⟨y, hy, rfl⟩ := hx
      have h3 := List.all_eq_true.1 h2 y hy
      simp only [termOk, wiB, Bool.and_eq_true, decide_eq_true_eq] at h3
      simp only
      omega
    · cases h
theorem TmI.nat {w : World} {B : Nat} {v : Value} {l : List (Int × Int)} (h : TmI w B v l) (hx : ∀ x ∈ l, 0 ≤ x.1) : TmC w B v (natT l) := by
  obtain ⟨A, cap, e, hc, h⟩ := h
  have hl : (natT l).length = l.length := by simp [natT]
  refine ⟨A, cap, by rw [hl]; exact e, by rw [hl]; exact hc, fun hne => ?_⟩
  obtain ⟨g, o, e2, hg, hcell⟩ := h (by intro e; rw [e] at hne; exact hne rfl)
  refine ⟨g, o, e2, hg, fun i x hi => ?_⟩
  simp only [natT, List.getElem?_map, Option.map_eq_some_iff] at hi
  obtain ⟨y, hy, rfl⟩ := hi
  obtain ⟨c1, c2⟩ := hcell i y hy
  have h0 := hx y (List.mem_of_getElem? hy)
  simp only
  rw [Int.toNat_of_nonneg h0]
  exact ⟨c1, c2⟩
def ExRel (w : World) (l : List (Int × Int)) (iv : Value) (wr : World) : Prop :=
  ∃ i : Nat, i ≤ l.length ∧ iv = .int .i64 (i : Int) ∧ (∀ x ∈ l.take i, termOk x = true) ∧ Below w.heap.size w wr
set_option maxRecDepth 100000 in
set_option maxHeartbeats 2000000 in
theorem examine_any (v : Value) (l : List (Int × Int)) (w : World) (hv : TmI w w.heap.size v l) (hl : l.length ≤ 1000000) :
    Calls Tryd.prog 76 #[v] w fun e w' => e = .returned (.int .i64 (examE l)) ∧ Below w.heap.size w w' := by
  obtain ⟨A, cap, rfl, hcap, -⟩ := id hv
  have HV := Lib.hid hv
  clear hv
  by_cases h16 : 16 < l.length
  · have hE : examE l = 3 := by unfold examE; rw [if_pos h16]
    rw [hE]
    have h16' : (16 : Int) < (l.length : Int) := by omega
    go_enter Tryd.func76, Tryd.ntmps76
    go_wp2
    go_ret
    exact ⟨rfl, Below.refl _ _⟩
  have h16' : ¬ (16 : Int) < (l.length : Int) := by omega
  go_enter Tryd.func76, Tryd.ntmps76
  go_wp2
  go_loopw [10] (fun iv wr => ExRel w l iv wr) (fun iv _ => l.length - (intOf iv).toNat)
  case atStart => exact ⟨0, Nat.zero_le _, rfl, fun x h => (by cases h), Below.refl _ _⟩
  case round =>
    obtain ⟨i, hi, rfl, hok, hb⟩ := hrel
    have HOK := Lib.hid hok
    have HB := Lib.hid hb
    clear hok hb
    by_cases hil : i < l.length
    · obtain ⟨x, hx⟩ : ∃ x, l[i]? = some x := ⟨l[i], List.getElem?_eq_getElem hil⟩
      obtain ⟨A', cap', e, -, hh⟩ := HV.out.keep HB.out
      cases e
      obtain ⟨g, o, rfl, hg, hcells⟩ := hh (by intro e; rw [e] at hil; simp at hil)
      obtain ⟨c0, c1⟩ := hcells i x hx
      have hilI : (i : Int) < (l.length : Int) := by omega
      have HX := Lib.hid hx
      clear hx hh hcells
      have hbad : termOk x = false → examE l = 2 := fun h => by
        unfold examE
        rw [if_neg h16, if_neg]
        intro h2
        rw [List.all_eq_true.1 h2 x (List.mem_of_getElem? HX.out)] at h
        cases h
      have HBAD := Lib.hid hbad
      clear hbad
      obtain ⟨n, a⟩ := x
      simp only at c0 c1
      go_wp2_with fail
      refine (within_any n 1 1000000000000 _).mono ?_
      rintro e w2 ⟨he, hw2⟩
      subst he
      subst hw2
      by_cases hn : wiB n 1 1000000000000 = true
      · rw [hn]
        go_wp2_with fail
        refine (within_any a (-1000000000) 1000000000 _).mono ?_
        rintro e w3 ⟨he, hw3⟩
        subst he
        subst hw3
        by_cases ha : wiB a (-1000000000) 1000000000 = true
        · rw [ha]
          have HT : termOk (n, a) = true := by show (wiB n _ _ && wiB a _ _) = true; rw [hn, ha]; rfl
          go_wp2
          refine ⟨⟨i + 1, by omega, by go_num, ?_, HB.out.alloc HB.out.size _⟩, by simp [intOf]; omega⟩
          intro y hy
          rw [List.take_add_one, HX.out, List.mem_append] at hy
          rcases hy with h | h
          · exact HOK.out y h
          · simp at h
            subst h
            exact HT
        · have ha : wiB a (-1000000000) 1000000000 = false := by simpa using ha
          have HT : termOk (n, a) = false := by show (wiB n _ _ && wiB a _ _) = false; rw [ha, Bool.and_false]
          have hE := HBAD.out HT
          rw [ha]
          go_wp2
          go_ret
          exact ⟨by rw [hE]; rfl, HB.out.alloc HB.out.size _⟩
      · have hn : wiB n 1 1000000000000 = false := by simpa using hn
        have HT : termOk (n, a) = false := by show (wiB n _ _ && wiB a _ _) = false; rw [hn]; rfl
        have hE := HBAD.out HT
        rw [hn]
        go_wp2
        go_ret
        exact ⟨by rw [hE]; rfl, HB.out.alloc HB.out.size _⟩
    · obtain rfl : i = l.length := by omega
      have hE : examE l = 0 := by
        unfold examE
        rw [if_neg h16, if_pos]
        exact List.all_eq_true.2 fun x hx => HOK.out x (by rw [List.take_length]; exact hx)
      go_wp2
      go_ret
      exact ⟨by rw [hE]; rfl, HB.out⟩
set_option maxRecDepth 100000 in
theorem Sign_any (v : Value) (l : List (Int × Int)) (w : World) (hv : TmI w w.heap.size v l) (hl : l.length ≤ 1000000) :
    Calls Tryd.prog 43 #[v] w fun e w' => e = .returned (.tuple #[.int .i64 (if examE l = 0 then sgnP (natT l) else 0), .int .i64 (examE l)]) ∧ Below w.heap.size w w' := by
  have hex := examine_any v l w hv hl
  have HEX := Lib.hid hex
  have HV := Lib.hid hv
  clear hex hv
  by_cases h0 : examE l = 0
  · have hvl := natT_valid h0
    have hsg := fun W (hW : TmC W W.heap.size v (natT l)) => sign_any v (natT l) 34 W hW hvl.ok
    have hnn : ∀ x ∈ l, 0 ≤ x.1 := fun x hx => by
      unfold examE at h0
      split at h0
      · cases h0
      · split at h0
        · rename_i h1 h2
          have h3 := List.all_eq_true.1 h2 x hx
          simp only [termOk, wiB, Bool.and_eq_true, decide_eq_true_eq] at h3
          omega
        · cases h0
    have htc := HV.out.nat hnn
    have HSG := Lib.hid hsg
    have HTC := Lib.hid htc
    have HEX2 := HEX.out
    rw [if_pos h0]
    rw [h0] at HEX2 ⊢
    have HEX3 := Lib.hid HEX2
    clear HEX HEX2 hsg htc hvl hnn h0 HV
    go_enter Tryd.func43, Tryd.ntmps43
    go_wp2_with fail
    refine HEX3.out.mono ?_
    rintro e w1 ⟨he, hb1⟩
    subst he
    go_wp2_with fail
    refine (HSG.out w1 (HTC.out.up hb1)).mono ?_
    rintro e w2 ⟨he, hb2⟩
    subst he
    go_wp2
    go_ret2
    exact ⟨rfl, hb1.trans (hb2.mono hb1.size)⟩
  · have hne : (examE l != 0) = true := by simp [h0]
    rw [if_neg h0]
    generalize examE l = E at *
    go_enter Tryd.func43, Tryd.ntmps43
    go_wp2_with fail
    refine HEX.out.mono ?_
    rintro e w1 ⟨he, hb1⟩
    subst he
    go_wp2
    go_ret2
    exact ⟨rfl, hb1⟩
end Go.Proofs.YtkoghdgfllichaaDoor
