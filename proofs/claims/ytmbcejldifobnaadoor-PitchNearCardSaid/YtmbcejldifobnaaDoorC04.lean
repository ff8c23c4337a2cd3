import Derived.Test.YtmbcejldifobnaaDoorC03
import Derived.OwnWalk
import Derived.Laws.OwnMore
import Derived.Deep.MidRow
import Derived.Test.YtmbcejldifobnaaDoorC02
namespace Go.Proofs.YtmbcejldifobnaaDoor
open Go.RowKit
def TmI (w : World) (B : Nat) (v : Value) (l : List (Int × Int)) : Prop :=
  ∃ A cap, v = .slice A l.length cap ∧ l.length ≤ cap ∧ (l ≠ [] → ∃ g o, A = some ⟨g, o, none⟩ ∧ g < B ∧ ∀ i x, l[i]? = some x → w.cell? ⟨g, o + i * 2, none⟩ = some (.int .i64 x.1) ∧ w.cell? ⟨g, o + i * 2 + 1, none⟩ = some (.int .i64 x.2))
theorem TmI.keep {w w' : World} {B : Nat} {v : Value} {l : List (Int × Int)} (h : TmI w B v l) (hb : Below B w w') : TmI w' B v l := by
  obtain ⟨A, cap, e, hc, h⟩ := h
  refine ⟨A, cap, e, hc, fun hne => ?_⟩
  obtain ⟨g, o, e2, hg, hx⟩ := h hne
  exact ⟨g, o, e2, hg, fun i x hi => ⟨(hb.cell (p := ⟨g, _, none⟩) hg).trans (hx i x hi).1, (hb.cell (p := ⟨g, _, none⟩) hg).trans (hx i x hi).2⟩⟩
def termOk (x : Int × Int) : Bool := wiB x.1 1 1000000000000 && wiB x.2 (-1000000000) 1000000000
/-- The error of bad terms. -/
def examE (l : List (Int × Int)) : Int := if 16 < l.length then 3 else if l.all termOk then 0 else 2
def natT (l : List (Int × Int)) : List (Nat × Int) := l.map fun x => (x.1.toNat, x.2)
theorem natT_valid {l : List (Int × Int)} (h : examE l = 0) : validL (natT l) := by
  unfold examE at h
  split at h
  · cases h
  · split at h
    · rename_i h1 h2
      refine ⟨by simp [natT]; omega, fun x hx => ?_⟩
      simp only [natT, List.mem_map] at hx
      obtain ⟨y, hy, rfl⟩ := hx
      have h3 := List.all_eq_true.1 h2 y hy
      simp only [termOk, wiB, Bool.and_eq_true, decide_eq_true_eq] at h3
      simp only
      omega
    · cases h
theorem TmI.nat {w : World} {B : Nat} {v : Value} {l : List (Int × Int)} (h : TmI w B v l) (hx : ∀ x ∈ l, 0 ≤ x.1) : TmC w B v (natT l) := by
  obtain ⟨A, cap, e, hc, h⟩ := h
  have hl : (natT l).length = l.length := by simp [natT]
  refine ⟨A, cap, by rw [hl]; exact e, by rw [hl]; exact hc, fun hne => ?_⟩
  obtain ⟨g, o, e2, hg, hcell⟩ := h (by intro e; rw [e] at hne; exact hne rfl)
  refine ⟨g, o, e2, hg, fun i x hi => ?_⟩
  simp only [natT, List.getElem?_map, Option.map_eq_some_iff] at hi
  obtain ⟨y, hy, rfl⟩ := hi
  obtain ⟨c1, c2⟩ := hcell i y hy
  have h0 := hx y (List.mem_of_getElem? hy)
  simp only
  rw [Int.toNat_of_nonneg h0]
  exact ⟨c1, c2⟩
def ExRel (w : World) (l : List (Int × Int)) (iv : Value) (wr : World) : Prop :=
  ∃ i : Nat, i ≤ l.length ∧ iv = .int .i64 (i : Int) ∧ (∀ x ∈ l.take i, termOk x = true) ∧ Below w.heap.size w wr
set_option maxRecDepth 100000 in
set_option maxHeartbeats 2000000 in
theorem examine_any (v : Value) (l : List (Int × Int)) (w : World) (hv : TmI w w.heap.size v l) (hl : l.length ≤ 1000000) :
    Calls Tryd.prog 95 #[v] w fun e w' => e = .returned (.int .i64 (examE l)) ∧ Below w.heap.size w w' := by
  obtain ⟨A, cap, rfl, hcap, -⟩ := id hv
  have HV := Lib.hid hv
  clear hv
  by_cases h16 : 16 < l.length
  · have hE : examE l = 3 := by unfold examE; rw [if_pos h16]
    rw [hE]
    have h16' : (16 : Int) < (l.length : Int) := by omega
    go_enter Tryd.func95, Tryd.ntmps95
    go_wp2
    go_ret
    exact ⟨rfl, Below.refl _ _⟩
  have h16' : ¬ (16 : Int) < (l.length : Int) := by omega
  go_enter Tryd.func95, Tryd.ntmps95
  go_wp2
  go_loopw [10] (fun iv wr => ExRel w l iv wr) (fun iv _ => l.length - (intOf iv).toNat)
  case atStart => exact ⟨0, Nat.zero_le _, rfl, fun x h => (by cases h), Below.refl _ _⟩
  case round =>
    obtain ⟨i, hi, rfl, hok, hb⟩ := hrel
    have HOK := Lib.hid hok
    have HB := Lib.hid hb
    clear hok hb
    by_cases hil : i < l.length
    · obtain ⟨x, hx⟩ : ∃ x, l[i]? = some x := ⟨l[i], List.getElem?_eq_getElem hil⟩
      obtain ⟨A', cap', e, -, hh⟩ := HV.out.keep HB.out
      cases e
      obtain ⟨g, o, rfl, hg, hcells⟩ := hh (by intro e; rw [e] at hil; simp at hil)
      obtain ⟨c0, c1⟩ := hcells i x hx
      have hilI : (i : Int) < (l.length : Int) := by omega
      have HX := Lib.hid hx
      clear hx hh hcells
      have hbad : termOk x = false → examE l = 2 := fun h => by
        unfold examE
        rw [if_neg h16, if_neg]
        intro h2
        rw [List.all_eq_true.1 h2 x (List.mem_of_getElem? HX.out)] at h
        cases h
      have HBAD := Lib.hid hbad
      clear hbad
      obtain ⟨n, a⟩ := x
      simp only at c0 c1
      go_wp2_with fail
      refine (within_any n 1 1000000000000 _).mono ?_
      rintro e w2 ⟨he, hw2⟩
      subst he
      subst hw2
      by_cases hn : wiB n 1 1000000000000 = true
      · rw [hn]
        go_wp2_with fail
        refine (within_any a (-1000000000) 1000000000 _).mono ?_
        rintro e w3 ⟨he, hw3⟩
        subst he
        subst hw3
        by_cases ha : wiB a (-1000000000) 1000000000 = true
        · rw [ha]
          have HT : termOk (n, a) = true := by show (wiB n _ _ && wiB a _ _) = true; rw [hn, ha]; rfl
          go_wp2
          refine ⟨⟨i + 1, by omega, by go_num, ?_, HB.out.alloc HB.out.size _⟩, by simp [intOf]; omega⟩
          intro y hy
          rw [List.take_add_one, HX.out, List.mem_append] at hy
          rcases hy with h | h
          · exact HOK.out y h
          · simp at h
            subst h
            exact HT
        · have ha : wiB a (-1000000000) 1000000000 = false := by simpa using ha
          have HT : termOk (n, a) = false := by show (wiB n _ _ && wiB a _ _) = false; rw [ha, Bool.and_false]
          have hE := HBAD.out HT
          rw [ha]
          go_wp2
          go_ret
          exact ⟨by rw [hE]; rfl, HB.out.alloc HB.out.size _⟩
      · have hn : wiB n 1 1000000000000 = false := by simpa using hn
        have HT : termOk (n, a) = false := by show (wiB n _ _ && wiB a _ _) = false; rw [hn]; rfl
        have hE := HBAD.out HT
        rw [hn]
        go_wp2
        go_ret
        exact ⟨by rw [hE]; rfl, HB.out.alloc HB.out.size _⟩
    · obtain rfl : i = l.length := by omega
      have hE : examE l = 0 := by
        unfold examE
        rw [if_neg h16, if_pos]
        exact List.all_eq_true.2 fun x hx => HOK.out x (by rw [List.take_length]; exact hx)
      go_wp2
      go_ret
      exact ⟨by rw [hE]; rfl, HB.out⟩
set_option maxRecDepth 100000 in
theorem Sign_any (v : Value) (l : List (Int × Int)) (w : World) (hv : TmI w w.heap.size v l) (hl : l.length ≤ 1000000) :
    Calls Tryd.prog 51 #[v] w fun e w' => e = .returned (.tuple #[.int .i64 (if examE l = 0 then sgnP (natT l) else 0), .int .i64 (examE l)]) ∧ Below w.heap.size w w' := by
  have hex := examine_any v l w hv hl
  have HEX := Lib.hid hex
  have HV := Lib.hid hv
  clear hex hv
  by_cases h0 : examE l = 0
  · have hvl := natT_valid h0
    have hsg := fun W (hW : TmC W W.heap.size v (natT l)) => sign_any v (natT l) 34 W hW hvl.ok
    have hnn : ∀ x ∈ l, 0 ≤ x.1 := fun x hx => by
      unfold examE at h0
      split at h0
      · cases h0
      · split at h0
        · rename_i h1 h2
          have h3 := List.all_eq_true.1 h2 x hx
          simp only [termOk, wiB, Bool.and_eq_true, decide_eq_true_eq] at h3
          omega
        · cases h0
    have htc := HV.out.nat hnn
    have HSG := Lib.hid hsg
    have HTC := Lib.hid htc
    have HEX2 := HEX.out
    rw [if_pos h0]
    rw [h0] at HEX2 ⊢
    have HEX3 := Lib.hid HEX2
    clear HEX HEX2 hsg htc hvl hnn h0 HV
    go_enter Tryd.func51, Tryd.ntmps51
    go_wp2_with fail
    refine HEX3.out.mono ?_
    rintro e w1 ⟨he, hb1⟩
    subst he
    go_wp2_with fail
    refine (HSG.out w1 (HTC.out.up hb1)).mono ?_
    rintro e w2 ⟨he, hb2⟩
    subst he
    go_wp2
    go_ret2
    exact ⟨rfl, hb1.trans (hb2.mono hb1.size)⟩
  · have hne : (examE l != 0) = true := by simp [h0]
    rw [if_neg h0]
    generalize examE l = E at *
    go_enter Tryd.func51, Tryd.ntmps51
    go_wp2_with fail
    refine HEX.out.mono ?_
    rintro e w1 ⟨he, hb1⟩
    subst he
    go_wp2
    go_ret2
    exact ⟨rfl, hb1⟩
end Go.Proofs.YtmbcejldifobnaaDoor

namespace Go.Proofs.YtmbcejldifobnaaDoor
open Go.RowKit
def SrPost (f : Int → Int) (lo : Int) (e : Ending) : Prop :=
  ((f lo < 0 ∨ 0 ≤ f 1000000000001) ∧ e = .returned (.tuple #[.int .i64 0, .bool false, .int .i64 7])) ∨
  (¬ (f lo < 0 ∨ 0 ≤ f 1000000000001) ∧ ∃ m : Int, lo ≤ m ∧ m ≤ 1000000000000 ∧ 0 ≤ f m ∧ f (m + 1) < 0 ∧ e = .returned (.tuple #[.int .i64 m, .bool (f m == 0), .int .i64 0]))
def SrRel (I : World → Prop) (f : Int → Int) (lo : Int) (lv av : Value) (wr : World) : Prop :=
  ∃ a b : Int, lv = .int .i64 a ∧ av = .int .i64 b ∧ lo ≤ a ∧ a < b ∧ b ≤ 1000000000001 ∧ 0 ≤ f a ∧ f b < 0 ∧ I wr
def srM : Value → Value → Nat
  | .int _ a, .int _ b => (b - a).toNat
  | _, _ => 0
set_option maxRecDepth 100000 in
set_option maxHeartbeats 400000 in
theorem search_floor (c1 c2 : Value) (I : World → Prop) (f : Int → Int) (lo : Int) (w : World) (h1 : -1000000000000 ≤ lo) (h2 : lo ≤ 0) (hd : ∀ W n, I W → I (W.drewN n))
    (hc : ∀ k W, lo ≤ k → k ≤ 1000000000001 → I W → Calls Tryd.prog 98 #[.int .i64 k, c1, c2] W fun e w' => e = .returned (.int .i64 (f k)) ∧ I w') (hI : I w) :
    Calls Tryd.prog 97 #[.int .i64 lo, .func (.func 98) #[] #[c1, c2]] w fun e w' => SrPost f lo e ∧ I w' := by
  have HC := Lib.hid hc
  have HD := Lib.hid hd
  clear hc hd
  go_enter Tryd.func97, Tryd.ntmps97
  go_wp2_with fail
  refine (HC.out lo w (by omega) (by omega) hI).mono ?_
  rintro e w1 ⟨he, hI1⟩
  subst he
  by_cases hf : f lo < 0
  · have HF := Lib.hid hf
    go_wp2
    first
      | go_ret3
      | go_ret
    exact ⟨.inl ⟨.inl HF.out, rfl⟩, hI1⟩
  go_wp2_with fail
  refine (HC.out 1000000000001 w1 (by omega) (by omega) hI1).mono ?_
  rintro e w2 ⟨he, hI2⟩
  subst he
  by_cases hg : 0 ≤ f 1000000000001
  · have HG := Lib.hid hg
    go_wp2
    first
      | go_ret3
      | go_ret
    exact ⟨.inl ⟨.inr HG.out, rfl⟩, hI2⟩
  have HF := Lib.hid hf
  have HG := Lib.hid hg
  go_wp2
  clear hf hg hI hI1
  go_loopw [7, 8] (fun lv av wr => SrRel I f lo lv av wr) (fun lv av _ => srM lv av)
  case atStart => exact ⟨lo, 1000000000001, rfl, rfl, Int.le_refl _, by omega, Int.le_refl _, HF.out, HG.out, hI2⟩
  case round =>
    obtain ⟨a, b, rfl, rfl, ha, hab, hb, hfa, hfb, hIr⟩ := hrel
    have HFA := Lib.hid hfa
    have HFB := Lib.hid hfb
    clear hfa hfb
    by_cases h1b : 1 < b - a
    · have s1 : IntKind.i64.wrap (b - a) = b - a := IntWalk.i64_in _ (by omega)
      obtain ⟨M, hM⟩ : ∃ M : Int, a + (b - a) / 2 = M := ⟨_, rfl⟩
      have s3 : IntKind.i64.wrap M = M := IntWalk.i64_in _ (by omega)
      go_wp2_with fail
      refine (HC.out M wr (by omega) (by omega) hIr).mono ?_
      rintro e w3 ⟨he, hI3⟩
      subst he
      by_cases hfm : f M < 0
      · have HFM := Lib.hid hfm
        go_wp2
        exact ⟨⟨a, M, rfl, rfl, ha, by omega, by omega, HFA.out, HFM.out, hI3⟩, by show (M - a).toNat < (b - a).toNat; omega⟩
      · have HFM := Lib.hid hfm
        go_wp2
        exact ⟨⟨M, b, rfl, rfl, by omega, by omega, hb, by have := HFM.out; omega, HFB.out, hI3⟩, by show (b - M).toNat < (b - a).toNat; omega⟩
    · obtain rfl : b = a + 1 := by omega
      have s1 : a + 1 - a = 1 := by omega
      have s0 : IntKind.i64.wrap (a + 1 - a) = 1 := by rw [s1]; rfl
      go_wp2_with fail
      refine (HC.out a wr ha (by omega) hIr).mono ?_
      rintro e w3 ⟨he, hI3⟩
      subst he
      go_wp2
      go_ret3
      exact ⟨.inr ⟨by have := HF.out; have := HG.out; omega, a, ha, by omega, HFA.out, HFB.out, rfl⟩, hI3⟩
set_option maxRecDepth 100000 in
set_option maxHeartbeats 400000 in
theorem search_power (c1 c2 : Value) (I : World → Prop) (f : Int → Int) (lo : Int) (w : World) (h1 : -1000000000000 ≤ lo) (h2 : lo ≤ 0) (hd : ∀ W n, I W → I (W.drewN n))
    (hc : ∀ k W, lo ≤ k → k ≤ 1000000000001 → I W → Calls Tryd.prog 165 #[.int .i64 k, c1, c2] W fun e w' => e = .returned (.int .i64 (f k)) ∧ I w') (hI : I w) :
    Calls Tryd.prog 97 #[.int .i64 lo, .func (.func 165) #[] #[c1, c2]] w fun e w' => SrPost f lo e ∧ I w' := by
  have HC := Lib.hid hc
  have HD := Lib.hid hd
  clear hc hd
  go_enter Tryd.func97, Tryd.ntmps97
  go_wp2_with fail
  refine (HC.out lo w (by omega) (by omega) hI).mono ?_
  rintro e w1 ⟨he, hI1⟩
  subst he
  by_cases hf : f lo < 0
  · have HF := Lib.hid hf
    go_wp2
    first
      | go_ret3
      | go_ret
    exact ⟨.inl ⟨.inl HF.out, rfl⟩, hI1⟩
  go_wp2_with fail
  refine (HC.out 1000000000001 w1 (by omega) (by omega) hI1).mono ?_
  rintro e w2 ⟨he, hI2⟩
  subst he
  by_cases hg : 0 ≤ f 1000000000001
  · have HG := Lib.hid hg
    go_wp2
    first
      | go_ret3
      | go_ret
    exact ⟨.inl ⟨.inr HG.out, rfl⟩, hI2⟩
  have HF := Lib.hid hf
  have HG := Lib.hid hg
  go_wp2
  clear hf hg hI hI1
  go_loopw [7, 8] (fun lv av wr => SrRel I f lo lv av wr) (fun lv av _ => srM lv av)
  case atStart => exact ⟨lo, 1000000000001, rfl, rfl, Int.le_refl _, by omega, Int.le_refl _, HF.out, HG.out, hI2⟩
  case round =>
    obtain ⟨a, b, rfl, rfl, ha, hab, hb, hfa, hfb, hIr⟩ := hrel
    have HFA := Lib.hid hfa
    have HFB := Lib.hid hfb
    clear hfa hfb
    by_cases h1b : 1 < b - a
    · have s1 : IntKind.i64.wrap (b - a) = b - a := IntWalk.i64_in _ (by omega)
      obtain ⟨M, hM⟩ : ∃ M : Int, a + (b - a) / 2 = M := ⟨_, rfl⟩
      have s3 : IntKind.i64.wrap M = M := IntWalk.i64_in _ (by omega)
      go_wp2_with fail
      refine (HC.out M wr (by omega) (by omega) hIr).mono ?_
      rintro e w3 ⟨he, hI3⟩
      subst he
      by_cases hfm : f M < 0
      · have HFM := Lib.hid hfm
        go_wp2
        exact ⟨⟨a, M, rfl, rfl, ha, by omega, by omega, HFA.out, HFM.out, hI3⟩, by show (M - a).toNat < (b - a).toNat; omega⟩
      · have HFM := Lib.hid hfm
        go_wp2
        exact ⟨⟨M, b, rfl, rfl, by omega, by omega, hb, by have := HFM.out; omega, HFB.out, hI3⟩, by show (b - M).toNat < (b - a).toNat; omega⟩
    · obtain rfl : b = a + 1 := by omega
      have s1 : a + 1 - a = 1 := by omega
      have s0 : IntKind.i64.wrap (a + 1 - a) = 1 := by rw [s1]; rfl
      go_wp2_with fail
      refine (HC.out a wr ha (by omega) hIr).mono ?_
      rintro e w3 ⟨he, hI3⟩
      subst he
      go_wp2
      go_ret3
      exact ⟨.inr ⟨by have := HF.out; have := HG.out; omega, a, ha, by omega, HFA.out, HFB.out, rfl⟩, hI3⟩
end Go.Proofs.YtmbcejldifobnaaDoor

namespace Go.Proofs.YtmbcejldifobnaaDoor
open Go.RowKit
theorem RowT.tmc {w : World} {B : Nat} {v : Value} {l : List (Nat × Int)} (h : RowT w B v l) : TmC w w.heap.size v l := by
  obtain ⟨A, cap, rfl, hc, -, hf⟩ := h.form
  refine ⟨A, cap, rfl, hc, fun hne => ?_⟩
  rcases hf with ⟨-, h0, -⟩ | ⟨g, rfl, -, hg, hcell⟩
  · exact absurd (List.eq_nil_of_length_eq_zero h0) hne
  · refine ⟨g, 0, rfl, hg, fun i x hx => ?_⟩
    rw [Nat.zero_add]
    exact hcell i x hx
structure PwBox (w : World) (B bp bd g cap : Nat) (l : List (Nat × Int)) (d : Int) (W : World) : Prop where
  row : RowT W B (.slice (some ⟨g, 0, none⟩) l.length cap) l
  room : l.length < cap
  box : W.heap[bp]? = some (.cells #[.slice (some ⟨g, 0, none⟩) l.length cap] 78 (0, 0))
  den : W.heap[bd]? = some (.cells #[.int .i64 d] 2 (0, 0))
  ne1 : g ≠ bp
  ne2 : g ≠ bd
  below : Below B w W
  hB : B ≤ W.heap.size
theorem PwBox.up {w : World} {B bp bd g cap : Nat} {l : List (Nat × Int)} {d : Int} {W W' : World} (h : PwBox w B bp bd g cap l d W) (hb : Below W.heap.size W W') : PwBox w B bp bd g cap l d W' := by
  have l1 : bp < W.heap.size := (Array.getElem?_eq_some_iff.1 h.box).1
  have l2 : bd < W.heap.size := (Array.getElem?_eq_some_iff.1 h.den).1
  exact ⟨h.row.up hb, h.room, (hb.block _ l1).trans h.box, (hb.block _ l2).trans h.den, h.ne1, h.ne2, h.below.trans (hb.mono h.hB), Nat.le_trans h.hB hb.size⟩
theorem PwBox.drewN {w : World} {B bp bd g cap : Nat} {l : List (Nat × Int)} {d : Int} {W : World} (h : PwBox w B bp bd g cap l d W) (n : Nat) : PwBox w B bp bd g cap l d (W.drewN n) := h.up (Drawn.below ⟨n, rfl⟩)
set_option maxRecDepth 100000 in
set_option maxHeartbeats 1000000 in
theorem floorC (w : World) (B bp bd g cap : Nat) (l : List (Nat × Int)) (d m : Int) (k : Nat) (W : World) (h : PwBox w B bp bd g cap l d W) (h1 : -1000000000001 ≤ m) (h2 : m ≤ 1000000000001) (hd1 : 1 ≤ d) (hd2 : d ≤ 1000000) (hs : SignOk (l ++ [(2, -(m * d))]) k) :
    Calls Tryd.prog 98 #[.int .i64 m, .pointer (some ⟨bp, 0, none⟩), .pointer (some ⟨bd, 0, none⟩)] W fun e W' => e = .returned (.int .i64 (sgnP (l ++ [(2, -(m * d))]))) ∧ PwBox w B bp bd g cap l d W' := by
  have c1 : W.cell? ⟨bp, 0, none⟩ = some (.slice (some ⟨g, 0, none⟩) l.length cap) := Go.Joins.cell_of_block h.box 0
  have c2 : W.cell? ⟨bd, 0, none⟩ = some (.int .i64 d) := Go.Joins.cell_of_block h.den 0
  obtain ⟨X, hX⟩ : ∃ X : Int, -m * d = X := ⟨_, rfl⟩
  have hX2 : -(m * d) = X := by rw [← hX, Int.neg_mul]
  have hXb : -1000000000001000000 ≤ X ∧ X ≤ 1000000000001000000 := by
    rw [← hX]
    have a1 := Int.mul_le_mul_of_nonneg_right (show -m ≤ 1000000000001 by omega) (show 0 ≤ d by omega)
    have a2 := Int.mul_le_mul_of_nonneg_right (show -1000000000001 ≤ -m by omega) (show 0 ≤ d by omega)
    omega
  have s1 : IntKind.i64.wrap X = X := IntWalk.i64_in _ (by omega)
  rw [hX2] at hs ⊢
  have HSG := Lib.hid fun W' (h' : TmC W' W'.heap.size (.slice (some ⟨g, 0, none⟩) (l ++ [(2, X)]).length cap) (l ++ [(2, X)])) => sign_any _ _ k W' h' hs
  have H := Lib.hid h
  have hrm := h.room
  clear h hs hX2
  have hlen : (l ++ [(2, X)]).length = l.length + 1 := by simp
  rw [hlen] at HSG
  have hown := H.out.row.up ((Below.refl W.heap.size W).alloc (Nat.le_refl _) (.cells #[.int .i64 2, .int .i64 X] 84))
  obtain ⟨i0, hi0, hz0, hz1, hz2⟩ := info_parts Tryd.infoT
  go_enter Tryd.func98, Tryd.ntmps98
  go_wp2_with (at_builtin; refine wpList_append_fits _ rfl (.tmp 5) (.tmp 11) 78 rfl B 84 i0 2 Tryd.underlying78 hi0 hz1 g l.length cap (encT l) rfl hown ⟨W.heap.size, 0, none⟩ 1 1 (encT [(2, X)]) rfl rfl (World.news_of_block (cs := #[.int .i64 2, .int .i64 X]) (t := 84) (fr := (0, 0)) (heap_alloc_new W _)) (one_encT _) (by omega) ?_; intro w1 hown1 hgr1)
  have hr1 : RowT w1 B (.slice (some ⟨g, 0, none⟩) (l ++ [(2, X)]).length cap) (l ++ [(2, X)]) := by
    unfold RowT
    rw [encT_append, hlen]
    exact hown1
  have ht1 := hr1.tmc
  rw [hlen] at ht1
  refine (HSG.out w1 ht1).mono ?_
  rintro e w2 ⟨he, hb2⟩
  subst he
  go_wp2
  go_ret
  refine ⟨rfl, PwBox.up ?_ hb2⟩
  have h := H.out
  have hg := hr1.lt g rfl
  have l1 : bp < W.heap.size := (Array.getElem?_eq_some_iff.1 h.box).1
  have l2 : bd < W.heap.size := (Array.getElem?_eq_some_iff.1 h.den).1
  have hA : Below W.heap.size W (W.alloc (.cells #[.int .i64 2, .int .i64 X] 84)) := (Below.refl W.heap.size W).alloc (Nat.le_refl _) _
  have hz := hA.size
  have ht := hr1.take l.length (by rw [hlen]; omega)
  rw [List.take_left'  rfl] at ht
  refine ⟨ht, h.room, ?_, ?_, h.ne1, h.ne2, (h.below.alloc h.hB _).grown hgr1 (Nat.le_trans h.hB hz) (fun k hk => by cases hk; exact hg.1), ?_⟩
  · exact (hgr1.block bp (by simp; omega) (fun e => h.ne1 (Option.some.inj e).symm)).trans ((hA.block _ l1).trans h.box)
  · exact (hgr1.block bd (by simp; omega) (fun e => h.ne2 (Option.some.inj e).symm)).trans ((hA.block _ l2).trans h.den)
  · exact Nat.le_trans (Nat.le_trans h.hB hz) hgr1.size
end Go.Proofs.YtmbcejldifobnaaDoor

namespace Go.Proofs.YtmbcejldifobnaaDoor.Pc
open Go.RowKit
/-- A root: terms that the call owns, and what root. -/
def RootV (w : World) (B : Nat) (V : Value) (l : List (Nat × Int)) (d : Int) : Prop := ∃ v, V = .agg #[v, .int .i64 d] ∧ RowT w B v l
theorem RootV.up {w w' : World} {B : Nat} {V : Value} {l : List (Nat × Int)} {d : Int} (h : RootV w B V l d) (hb : Below w.heap.size w w') : RootV w' B V l d := by
  obtain ⟨v, e, hr⟩ := h
  exact ⟨v, e, hr.up hb⟩
theorem rowT_lit (w : World) (l : List (Nat × Int)) (cs : Array Value) (hc : cs = (encT l).toArray) (hl : l.length ≤ 1000) : RowT (w.alloc (.cells cs 84)) w.heap.size (.slice (some ⟨w.heap.size, 0, none⟩) l.length l.length) l := by
  subst hc
  have h := World.ownsRow_lit (base := w.heap.size) (e := 84) (size := 2) w (encT l).toArray l.length (Nat.le_refl _) (by unfold maxLen; omega) (by rw [List.size_toArray, encT_len])
  exact h
theorem RowT.low {w : World} {B C : Nat} {v : Value} {l : List (Nat × Int)} (h : RowT w B v l) (hc : C ≤ B) : RowT w C v l := by
  refine ⟨h.1, ?_⟩
  rcases h.2 with h0 | ⟨g, cap, cur, hv, hb, hr⟩
  · exact .inl h0
  · exact .inr ⟨g, cap, cur, hv, Nat.le_trans hc hb, hr⟩
theorem results_one {P : Program} {fn : Func} {tmps : Array Value} {w : World} {a : Nat} {t : TypeId} {A : Addr} {v : Value} (hf : fn.results = #[.cell a t]) (ha : tmps.getD a undef = .pointer (some A)) (hl : (loadVar t A).run P w = .ok v w) : (results fn tmps).run P w = .ok v w := by
  unfold results
  rw [hf]
  have ha2 : tmps[a]?.getD undef = .pointer (some A) := by rw [← ha, Array.getD_eq_getD_getElem?]
  simp [ha2, asAddr, hl]
theorem szRoot (v : Value) (d : Int) : (Tryd.prog.info? 113).map (·.size) = some ([v, .int .i64 d] : List Value).length := by show _ = some 2; kernel_rfl
theorem load_root {w : World} {g : Nat} {v : Value} {d : Int} (h : w.heap[g]? = some (.cells #[v, .int .i64 d] 113 (0, 0))) : (loadVar 113 ⟨g, 0, none⟩).run Tryd.prog w = .ok (.agg #[v, .int .i64 d]) w :=
  run_loadVar_mid w g 0 113 [v, .int .i64 d] _ (fun j u hu => by
    rw [Nat.zero_add, Go.Joins.cell_of_block h j]
    simpa using hu) Tryd.underlying113 rfl (szRoot v d)
set_option maxHeartbeats 1000000 in
theorem whole_any (n : Nat) (w : World) : Calls Tryd.prog 127 #[.int .i64 (n : Int)] w fun e w' => (∃ V, e = .returned V ∧ RootV w' w.heap.size V [(n, 1)] 1) ∧ Below w.heap.size w w' := by
  have hb := (Below.refl w.heap.size w).alloc (Nat.le_refl _) (.cells #[Value.slice (some ⟨w.heap.size + 1, 0, none⟩) 1 1, .int .i64 1] 113)
  have hr := rowT_lit (w.alloc (.cells #[Value.slice (some ⟨w.heap.size + 1, 0, none⟩) 1 1, .int .i64 1] 113)) [(n, 1)] #[.int .i64 (n : Int), .int .i64 1] rfl (by simp)
  rw [World.size_alloc] at hr
  go_enter Tryd.func127, Tryd.ntmps127
  go_wp2
  refine bodyPost_ret (v := .agg #[.slice (some ⟨w.heap.size + 1, 0, none⟩) 1 1, .int .i64 1]) (results_one rfl rfl (load_root ?_)) rfl ⟨⟨_, rfl, _, rfl, RowT.low hr (by omega)⟩, hb.alloc (by simp) _⟩
  exact (((Below.refl _ _).alloc (Nat.le_refl _) _).block _ (by simp)).trans (heap_alloc_new w _)
set_option maxHeartbeats 1000000 in
theorem faster_any (a b : Int) (w : World) (ha : -20000 ≤ a) (ha2 : a ≤ 50000) (hb : -20000 ≤ b) (hb2 : b ≤ 50000) : Calls Tryd.prog 73 #[.int .i64 a, .int .i64 b] w fun e w' => (∃ V, e = .returned V ∧ RootV w' w.heap.size V [((273150 + b).toNat, 1), ((273150 + a).toNat, -1)] 2) ∧ Below w.heap.size w w' := by
  obtain ⟨m, hm⟩ : ∃ m : Nat, 273150 + a = (m : Int) := ⟨(273150 + a).toNat, by omega⟩
  obtain ⟨n, hn⟩ : ∃ n : Nat, 273150 + b = (n : Int) := ⟨(273150 + b).toNat, by omega⟩
  rw [hm, hn, Int.toNat_natCast, Int.toNat_natCast]
  have h0 := (Below.refl w.heap.size w).alloc (Nat.le_refl _) (.cells #[Value.slice (some ⟨w.heap.size + 1, 0, none⟩) 2 2, .int .i64 2] 113)
  have hr := rowT_lit (w.alloc (.cells #[Value.slice (some ⟨w.heap.size + 1, 0, none⟩) 2 2, .int .i64 2] 113)) [(n, 1), (m, -1)] #[.int .i64 (n : Int), .int .i64 1, .int .i64 (m : Int), .int .i64 (-1)] rfl (by simp)
  rw [World.size_alloc] at hr
  go_enter Tryd.func73, Tryd.ntmps73
  go_wp2
  refine bodyPost_ret (v := .agg #[.slice (some ⟨w.heap.size + 1, 0, none⟩) 2 2, .int .i64 2]) (results_one rfl rfl (load_root ?_)) rfl ⟨⟨_, rfl, _, rfl, RowT.low hr (by omega)⟩, h0.alloc (by simp) _⟩
  exact (((Below.refl _ _).alloc (Nat.le_refl _) _).block _ (by simp)).trans (heap_alloc_new w _)
end Go.Proofs.YtmbcejldifobnaaDoor.Pc

namespace Go.Proofs.YtmbcejldifobnaaDoor
structure V6 where
  a : Int
  b : Int
  c : Int
  d : Int
  e : Int
  f : Int
theorem V6.eq {u v : V6} (h1 : u.a = v.a) (h2 : u.b = v.b) (h3 : u.c = v.c) (h4 : u.d = v.d) (h5 : u.e = v.e) (h6 : u.f = v.f) : u = v := by
  cases u; cases v; simp only at h1 h2 h3 h4 h5 h6; subst h1 h2 h3 h4 h5 h6; rfl
def ps6 : List Nat := [2, 3, 5, 7, 11, 13]
def V6.l (v : V6) : List Int := [v.a, v.b, v.c, v.d, v.e, v.f]
def V6.zl (v : V6) : List (Nat × Int) := ps6.zip v.l
def V6.add (u v : V6) : V6 := ⟨u.a + v.a, u.b + v.b, u.c + v.c, u.d + v.d, u.e + v.e, u.f + v.f⟩
def V6.scl (k : Int) (v : V6) : V6 := ⟨k * v.a, k * v.b, k * v.c, k * v.d, k * v.e, k * v.f⟩
def V6.two (v : V6) (x : Int) : V6 := ⟨v.a + x, v.b, v.c, v.d, v.e, v.f⟩
def Sg (v : V6) : Int := sgnP v.zl
theorem zip_add : ∀ (ps : List Nat) (v w : List Int), v.length = ps.length → w.length = ps.length → eqvP (ps.zip (List.zipWith (· + ·) v w)) (ps.zip v ++ ps.zip w)
  | [], _, _, _, _ => by simp [eqvP, upP, dnP]
  | p :: ps, a :: v, b :: w, h1, h2 => by
    have ih := zip_add ps v w (by simpa using h1) (by simpa using h2)
    unfold eqvP at ih ⊢
    rw [upP_append, dnP_append] at ih ⊢
    show p ^ (a + b).toNat * upP (ps.zip (List.zipWith (· + ·) v w)) * (p ^ (-a).toNat * dnP (ps.zip v) * (p ^ (-b).toNat * dnP (ps.zip w))) =
      p ^ (-(a + b)).toNat * dnP (ps.zip (List.zipWith (· + ·) v w)) * (p ^ a.toNat * upP (ps.zip v) * (p ^ b.toNat * upP (ps.zip w)))
    have e : p ^ (a + b).toNat * p ^ (-a).toNat * p ^ (-b).toNat = p ^ (-(a + b)).toNat * p ^ a.toNat * p ^ b.toNat := by
      rw [← Nat.pow_add, ← Nat.pow_add, ← Nat.pow_add, ← Nat.pow_add]; congr 1; omega
    generalize upP (ps.zip (List.zipWith (· + ·) v w)) = U at *
    generalize dnP (ps.zip (List.zipWith (· + ·) v w)) = D at *
    have e1 : p ^ (a + b).toNat * U * (p ^ (-a).toNat * dnP (ps.zip v) * (p ^ (-b).toNat * dnP (ps.zip w))) = p ^ (a + b).toNat * p ^ (-a).toNat * p ^ (-b).toNat * (U * (dnP (ps.zip v) * dnP (ps.zip w))) := by ac_rfl
    have e2 : p ^ (-(a + b)).toNat * D * (p ^ a.toNat * upP (ps.zip v) * (p ^ b.toNat * upP (ps.zip w))) = p ^ (-(a + b)).toNat * p ^ a.toNat * p ^ b.toNat * (D * (upP (ps.zip v) * upP (ps.zip w))) := by ac_rfl
    rw [e1, e2, e, ih]
theorem mul_toNat (k : Nat) (a : Int) : ((k : Int) * a).toNat = a.toNat * k := by
  rcases Int.le_total 0 a with h | h
  · obtain ⟨n, rfl⟩ := Int.eq_ofNat_of_zero_le h
    rw [← Int.natCast_mul, Int.toNat_natCast, Int.toNat_natCast, Nat.mul_comm]
  · rw [show a.toNat = 0 by omega, Nat.zero_mul]
    have := Int.mul_le_mul_of_nonneg_left h (Int.natCast_nonneg k)
    omega
theorem zip_scl (k : Nat) : ∀ (ps : List Nat) (v : List Int), upP (ps.zip (v.map ((k : Int) * ·))) = upP (ps.zip v) ^ k ∧ dnP (ps.zip (v.map ((k : Int) * ·))) = dnP (ps.zip v) ^ k
  | [], _ => by simp [upP, dnP]
  | p :: ps, [] => by simp [upP, dnP]
  | p :: ps, a :: v => by
    obtain ⟨h1, h2⟩ := zip_scl k ps v
    constructor
    · show p ^ ((k : Int) * a).toNat * upP (ps.zip (v.map ((k : Int) * ·))) = (p ^ a.toNat * upP (ps.zip v)) ^ k
      rw [h1, mul_toNat, Nat.pow_mul, Nat.mul_pow]
    · show p ^ (-((k : Int) * a)).toNat * dnP (ps.zip (v.map ((k : Int) * ·))) = (p ^ (-a).toNat * dnP (ps.zip v)) ^ k
      rw [h2, show -((k : Int) * a) = (k : Int) * (-a) by rw [Int.mul_neg], mul_toNat, Nat.pow_mul, Nat.mul_pow]
theorem zip_neg : ∀ (ps : List Nat) (v : List Int), upP (ps.zip (v.map (-·))) = dnP (ps.zip v) ∧ dnP (ps.zip (v.map (-·))) = upP (ps.zip v)
  | [], _ => by simp [upP, dnP]
  | p :: ps, [] => by simp [upP, dnP]
  | p :: ps, a :: v => by
    obtain ⟨h1, h2⟩ := zip_neg ps v
    constructor
    · show p ^ (-a).toNat * upP (ps.zip (v.map (-·))) = _
      rw [h1]; rfl
    · show p ^ (- -a).toNat * dnP (ps.zip (v.map (-·))) = _
      rw [h2, Int.neg_neg]; rfl
theorem zip_pos : ∀ (ps : List Nat) (v : List Int), (∀ p ∈ ps, 1 ≤ p) → posN (ps.zip v)
  | _, _, h => fun x hx => h x.1 (List.of_mem_zip hx).1
theorem V6.pos (v : V6) : posN v.zl := zip_pos _ _ (by decide)
theorem sgn_mul_ge {l u v : List (Nat × Int)} (hl : posN l) (hu : posN u) (hv : posN v) (h : eqvP l (u ++ v)) (h1 : 0 ≤ sgnP u) (h2 : 0 ≤ sgnP v) : 0 ≤ sgnP l := by
  rw [h.sgn hl (posN_append.2 ⟨hu, hv⟩)]
  rw [sgn_ge] at *
  rw [upP_append, dnP_append]
  exact Nat.mul_le_mul h1 h2
theorem sgn_mul_lt {l u v : List (Nat × Int)} (hl : posN l) (hu : posN u) (hv : posN v) (h : eqvP l (u ++ v)) (h1 : sgnP u < 0) (h2 : sgnP v ≤ 0) : sgnP l < 0 := by
  rw [h.sgn hl (posN_append.2 ⟨hu, hv⟩)]
  have h3 : upP v ≤ dnP v := by
    rcases Nat.lt_or_ge (dnP v) (upP v) with h3 | h3
    · rw [sgn_up h3] at h2; omega
    · exact h3
  rw [sgn_lt] at *
  rw [upP_append, dnP_append]
  exact Nat.mul_lt_mul_of_lt_of_le h1 h3 (dnP_pos' hv)
theorem add_eqv (u v : V6) : eqvP (u.add v).zl (u.zl ++ v.zl) := zip_add ps6 u.l v.l rfl rfl
theorem Sg_add_ge {u v : V6} (h1 : 0 ≤ Sg u) (h2 : 0 ≤ Sg v) : 0 ≤ Sg (u.add v) := sgn_mul_ge (V6.pos _) u.pos v.pos (add_eqv u v) h1 h2
theorem Sg_neg (v : V6) : Sg (V6.scl (-1) v) = -Sg v := by
  have e : (V6.scl (-1) v).zl = ps6.zip (v.l.map (-·)) := by
    unfold V6.zl V6.scl V6.l
    simp only [List.map_cons, List.map_nil, Int.neg_one_mul]
  obtain ⟨h1, h2⟩ := zip_neg ps6 v.l
  unfold Sg
  rw [e]
  unfold sgnP
  rw [h1, h2]
  show _ = -(if upP (ps6.zip v.l) = dnP (ps6.zip v.l) then 0 else if dnP (ps6.zip v.l) < upP (ps6.zip v.l) then 1 else -1)
  by_cases h3 : upP (ps6.zip v.l) = dnP (ps6.zip v.l)
  · rw [if_pos h3, if_pos h3.symm]; rfl
  · rw [if_neg h3, if_neg (Ne.symm h3)]
    by_cases h4 : dnP (ps6.zip v.l) < upP (ps6.zip v.l)
    · rw [if_pos h4, if_neg (by omega)]
    · rw [if_neg h4, if_pos (by omega)]; rfl
theorem Sg_add_eq {u v : V6} (h1 : Sg u = 0) (h2 : Sg v = 0) : Sg (u.add v) = 0 := by
  have h3 := Sg_add_ge (u := u) (v := v) (by omega) (by omega)
  have h4 := Sg_add_ge (u := V6.scl (-1) u) (v := V6.scl (-1) v) (by rw [Sg_neg]; omega) (by rw [Sg_neg]; omega)
  have e : (V6.scl (-1) u).add (V6.scl (-1) v) = V6.scl (-1) (u.add v) := by
    unfold V6.add V6.scl
    apply V6.eq <;> simp only <;> omega
  rw [e, Sg_neg] at h4
  omega
theorem pow_lt_iff' {a b k : Nat} (hk : 0 < k) : a ^ k < b ^ k ↔ a < b := by
  constructor
  · exact pow_lt_of
  · intro h; exact Nat.pow_lt_pow_left h (by omega)
theorem sgn_pow {l l' : List (Nat × Int)} {k : Nat} (hk : 0 < k) (h1 : upP l' = upP l ^ k) (h2 : dnP l' = dnP l ^ k) : sgnP l' = sgnP l := by
  unfold sgnP
  rw [h1, h2]
  have e : (upP l ^ k = dnP l ^ k) ↔ upP l = dnP l := by
    constructor
    · intro h
      rcases Nat.lt_trichotomy (upP l) (dnP l) with h3 | h3 | h3
      · have := (pow_lt_iff' hk).2 h3; omega
      · exact h3
      · have := (pow_lt_iff' hk).2 h3; omega
    · intro h; rw [h]
  by_cases h3 : upP l = dnP l
  · rw [if_pos h3, if_pos (e.2 h3)]
  · rw [if_neg h3, if_neg (fun h => h3 (e.1 h))]
    by_cases h4 : dnP l < upP l
    · rw [if_pos h4, if_pos ((pow_lt_iff' hk).2 h4)]
    · rw [if_neg h4, if_neg (fun h => h4 ((pow_lt_iff' hk).1 h))]
theorem Sg_scl (k : Int) (v : V6) (hk : 0 < k) : Sg (V6.scl k v) = Sg v := by
  obtain ⟨n, rfl⟩ := Int.eq_ofNat_of_zero_le (Int.le_of_lt hk)
  obtain ⟨h1, h2⟩ := zip_scl n ps6 v.l
  exact sgn_pow (k := n) (by omega) h1 h2
/-- The exponents in a list of any order and with parts left out. -/
def nz (l : List (Nat × Int)) : List (Nat × Int) := l.filter fun x => x.2 != 0
theorem nz_P : ∀ l, upP (nz l) = upP l ∧ dnP (nz l) = dnP l
  | [] => ⟨rfl, rfl⟩
  | x :: r => by
    obtain ⟨h1, h2⟩ := nz_P r
    by_cases h : x.2 = 0
    · have e : nz (x :: r) = nz r := by unfold nz; rw [List.filter_cons, if_neg (by simp [h])]
      rw [e, h1, h2]
      constructor
      · show _ = x.1 ^ x.2.toNat * upP r; rw [h]; simp
      · show _ = x.1 ^ (-x.2).toNat * dnP r; rw [h]; simp
    · have e : nz (x :: r) = x :: nz r := by unfold nz; rw [List.filter_cons, if_pos (by simp [h])]
      rw [e]
      constructor
      · show x.1 ^ x.2.toNat * upP (nz r) = x.1 ^ x.2.toNat * upP r; rw [h1]
      · show x.1 ^ (-x.2).toNat * dnP (nz r) = x.1 ^ (-x.2).toNat * dnP r; rw [h2]
def scL (s : Int) (l : List (Nat × Int)) : List (Nat × Int) := l.map fun x => (x.1, x.2 * s)
theorem scL_P (s : Nat) : ∀ l, upP (scL s l) = upP l ^ s ∧ dnP (scL s l) = dnP l ^ s
  | [] => by simp [scL, upP, dnP]
  | x :: r => by
    obtain ⟨h1, h2⟩ := scL_P s r
    constructor
    · show x.1 ^ (x.2 * (s : Int)).toNat * upP (scL s r) = (x.1 ^ x.2.toNat * upP r) ^ s
      rw [h1, Int.mul_comm, mul_toNat, Nat.pow_mul, Nat.mul_pow]
    · show x.1 ^ (-(x.2 * (s : Int))).toNat * dnP (scL s r) = (x.1 ^ (-x.2).toNat * dnP r) ^ s
      rw [h2, ← Int.neg_mul, Int.mul_comm, mul_toNat, Nat.pow_mul, Nat.mul_pow]
/-- The sign that Floor asks for, at m. -/
def Fl (v : V6) (s d m : Int) : Int := Sg ((V6.scl s v).two (-(m * d)))
theorem two_eqv (v : V6) (x : Int) : eqvP (v.two x).zl (v.zl ++ [(2, x)]) := by
  have h := zip_add ps6 v.l [x, 0, 0, 0, 0, 0] rfl rfl
  have e : ps6.zip (List.zipWith (· + ·) v.l [x, 0, 0, 0, 0, 0]) = (v.two x).zl := by
    unfold V6.zl V6.two V6.l
    simp only [List.zipWith_cons_cons, List.zipWith_nil_right, Int.add_zero]
  rw [e] at h
  unfold eqvP at h ⊢
  rw [upP_append, dnP_append] at h ⊢
  have e1 : upP (ps6.zip [x, 0, 0, 0, 0, 0]) = upP [(2, x)] := by simp [ps6, upP]
  have e2 : dnP (ps6.zip [x, 0, 0, 0, 0, 0]) = dnP [(2, x)] := by simp [ps6, dnP]
  rw [e1, e2] at h
  exact h
theorem Fl_of (v : V6) (s d m : Int) (hs : 0 < s) : sgnP (scL s (nz v.zl) ++ [(2, -(m * d))]) = Fl v s d m := by
  obtain ⟨n, rfl⟩ := Int.eq_ofNat_of_zero_le (Int.le_of_lt hs)
  have h := two_eqv (V6.scl n v) (-(m * d))
  have hp : posN ((V6.scl n v).zl ++ [(2, -(m * d))]) := posN_append.2 ⟨V6.pos _, fun x hx => by rw [List.mem_singleton] at hx; subst hx; show 1 ≤ 2; omega⟩
  unfold Fl Sg
  rw [h.sgn (V6.pos _) hp]
  unfold sgnP
  rw [upP_append, dnP_append, upP_append, dnP_append, (scL_P n _).1, (scL_P n _).2, (nz_P _).1, (nz_P _).2]
  obtain ⟨h1, h2⟩ := zip_scl n ps6 v.l
  have h1 : upP (V6.scl n v).zl = upP v.zl ^ n := h1
  have h2 : dnP (V6.scl n v).zl = dnP v.zl ^ n := h2
  rw [h1, h2]
/-- m is the floor. -/
def FlIs (v : V6) (s d m : Int) : Prop := 0 ≤ Fl v s d m ∧ Fl v s d (m + 1) < 0
theorem Sg_two {v : V6} {x : Int} (hx : 0 ≤ x) (h : 0 ≤ Sg v) : 0 ≤ Sg (v.two x) := by
  have h2 : 0 ≤ Sg ⟨x, 0, 0, 0, 0, 0⟩ := by
    unfold Sg
    rw [sgn_ge]
    show 2 ^ (-x).toNat * 1 ≤ 2 ^ x.toNat * 1
    rw [show (-x).toNat = 0 by omega]
    simp [Nat.one_le_two_pow]
  have h3 := Sg_add_ge h h2
  have e : v.add ⟨x, 0, 0, 0, 0, 0⟩ = v.two x := by
    unfold V6.add V6.two
    simp only [Int.add_zero]
  rw [e] at h3
  exact h3
theorem Fl_anti {v : V6} {s d : Int} (hd : 0 < d) {a b : Int} (h : a ≤ b) (hb : 0 ≤ Fl v s d b) : 0 ≤ Fl v s d a := by
  have h1 : 0 ≤ (b - a) * d := Int.mul_nonneg (by omega) (by omega)
  have h2 := Sg_two h1 hb
  have e : ((V6.scl s v).two (-(b * d))).two ((b - a) * d) = (V6.scl s v).two (-(a * d)) := by
    unfold V6.two
    apply V6.eq <;> simp only
    grind
  rw [e] at h2
  exact h2
theorem FlIs.unique {v : V6} {s d m k : Int} (hd : 0 < d) (h1 : FlIs v s d m) (h2 : FlIs v s d k) : m = k :=
  floor_one (f := Fl v s d) (fun _ _ => Fl_anti hd) h1.1 h1.2 h2.1 h2.2
theorem FlIs.le {v : V6} {s d m k : Int} (hd : 0 < d) (h1 : FlIs v s d m) (h2 : 0 ≤ Fl v s d k) : k ≤ m := by
  rcases Int.lt_or_le m k with h | h
  · have := Fl_anti hd (show m + 1 ≤ k by omega) h2
    have := h1.2
    omega
  · exact h
/-- Floors of greater ratios. -/
theorem FlIs.cmp {x y : V6} {s da db m n : Int} (hs : 0 < s) (hda : 0 < da) (hdb : 0 < db) (h1 : FlIs x s da m) (h2 : FlIs y s db n) (h : 0 ≤ Sg ((V6.scl db x).add (V6.scl (-1) (V6.scl da y)))) : n ≤ m := by
  refine h1.le hda ?_
  have h3 := Sg_add_ge (u := V6.scl s ((V6.scl db x).add (V6.scl (-1) (V6.scl da y)))) (v := V6.scl da ((V6.scl s y).two (-(n * db)))) (by rw [Sg_scl _ _ hs]; exact h) (by rw [Sg_scl _ _ hda]; exact h2.1)
  have e : (V6.scl s ((V6.scl db x).add (V6.scl (-1) (V6.scl da y)))).add (V6.scl da ((V6.scl s y).two (-(n * db)))) = V6.scl db ((V6.scl s x).two (-(n * da))) := by
    unfold V6.scl V6.add V6.two
    apply V6.eq <;> simp only <;> grind
  rw [e, Sg_scl _ _ hdb] at h3
  exact h3
theorem FlIs.same {x y : V6} {s da db m n : Int} (hs : 0 < s) (hda : 0 < da) (hdb : 0 < db) (h1 : FlIs x s da m) (h2 : FlIs y s db n) (h : Sg ((V6.scl db x).add (V6.scl (-1) (V6.scl da y))) = 0) : m = n ∧ (Fl x s da m = 0 ↔ Fl y s db n = 0) := by
  have h' : Sg ((V6.scl da y).add (V6.scl (-1) (V6.scl db x))) = 0 := by
    have e : (V6.scl da y).add (V6.scl (-1) (V6.scl db x)) = V6.scl (-1) ((V6.scl db x).add (V6.scl (-1) (V6.scl da y))) := by
      unfold V6.scl V6.add
      apply V6.eq <;> simp only <;> grind
    rw [e, Sg_neg]; omega
  have a1 := FlIs.cmp hs hda hdb h1 h2 (by omega)
  have a2 := FlIs.cmp hs hdb hda h2 h1 (by omega)
  have em : m = n := by omega
  subst em
  refine ⟨rfl, ?_, ?_⟩
  · intro z
    have h3 := Sg_add_eq (u := V6.scl s ((V6.scl da y).add (V6.scl (-1) (V6.scl db x)))) (v := V6.scl db ((V6.scl s x).two (-(m * da)))) (by rw [Sg_scl _ _ hs]; exact h') (by rw [Sg_scl _ _ hdb]; exact z)
    have e : (V6.scl s ((V6.scl da y).add (V6.scl (-1) (V6.scl db x)))).add (V6.scl db ((V6.scl s x).two (-(m * da)))) = V6.scl da ((V6.scl s y).two (-(m * db))) := by
      unfold V6.scl V6.add V6.two
      apply V6.eq <;> simp only <;> grind
    rw [e, Sg_scl _ _ hda] at h3
    exact h3
  · intro z
    have h3 := Sg_add_eq (u := V6.scl s ((V6.scl db x).add (V6.scl (-1) (V6.scl da y)))) (v := V6.scl da ((V6.scl s y).two (-(m * db)))) (by rw [Sg_scl _ _ hs]; exact h) (by rw [Sg_scl _ _ hda]; exact z)
    have e : (V6.scl s ((V6.scl db x).add (V6.scl (-1) (V6.scl da y)))).add (V6.scl da ((V6.scl s y).two (-(m * db)))) = V6.scl db ((V6.scl s x).two (-(m * da))) := by
      unfold V6.scl V6.add V6.two
      apply V6.eq <;> simp only <;> grind
    rw [e, Sg_scl _ _ hdb] at h3
    exact h3
/-- Floors of a folded ratio. -/
theorem Fl_fold (v : V6) (s d k m : Int) : Fl (v.two (-(k * d))) s d (m - s * k) = Fl v s d m := by
  unfold Fl
  congr 1
  unfold V6.scl V6.two
  apply V6.eq <;> simp only <;> grind
theorem FlIs.fold {v : V6} {s d k m : Int} (hs : 0 < s) (hd : 0 < d) (hk : FlIs v 1 d k) (h : FlIs v s d m) : FlIs (v.two (-(k * d))) s d (m - s * k) ∧ 0 ≤ m - s * k ∧ m - s * k < s := by
  have h1 : FlIs (v.two (-(k * d))) s d (m - s * k) := by
    obtain ⟨a, b⟩ := h
    refine ⟨by rw [Fl_fold]; exact a, ?_⟩
    rw [show m - s * k + 1 = m + 1 - s * k by omega, Fl_fold]
    exact b
  refine ⟨h1, ?_, ?_⟩
  · refine h1.le hd ?_
    have h2 := hk.1
    have e : Fl (v.two (-(k * d))) s d 0 = Fl v 1 d k := by
      unfold Fl
      rw [← Sg_scl s ((V6.scl 1 v).two (-(k * d))) hs]
      congr 1
      unfold V6.scl V6.two
      apply V6.eq <;> simp only <;> grind
    rw [e]; exact h2
  · rcases Int.lt_or_le (m - s * k) s with h3 | h3
    · exact h3
    · have h4 := Fl_anti hd h3 h1.1
      have h2 := hk.2
      have e : Fl (v.two (-(k * d))) s d s = Fl v 1 d (k + 1) := by
        unfold Fl
        rw [← Sg_scl s ((V6.scl 1 v).two (-((k + 1) * d))) hs]
        congr 1
        unfold V6.scl V6.two
        apply V6.eq <;> simp only <;> grind
      rw [e] at h4
      omega
end Go.Proofs.YtmbcejldifobnaaDoor

namespace Go.Proofs.YtmbcejldifobnaaDoor
def gl (l : List Int) (d : Nat) : Nat := l.foldl (fun g n => Nat.gcd g n.natAbs) d
theorem gl_dvd : ∀ (l : List Int) (d : Nat), gl l d ∣ d ∧ ∀ n ∈ l, gl l d ∣ n.natAbs
  | [], d => ⟨Nat.dvd_refl d, fun n h => by cases h⟩
  | x :: r, d => by
    obtain ⟨h1, h2⟩ := gl_dvd r (Nat.gcd d x.natAbs)
    show gl r (Nat.gcd d x.natAbs) ∣ d ∧ ∀ n ∈ x :: r, gl r (Nat.gcd d x.natAbs) ∣ n.natAbs
    refine ⟨Nat.dvd_trans h1 (Nat.gcd_dvd_left _ _), fun n hn => ?_⟩
    rcases List.mem_cons.1 hn with h | h
    · subst h; exact Nat.dvd_trans h1 (Nat.gcd_dvd_right _ _)
    · exact h2 n h
theorem gl_great : ∀ (l : List Int) (d k : Nat), k ∣ d → (∀ n ∈ l, k ∣ n.natAbs) → k ∣ gl l d
  | [], _, _, h, _ => h
  | x :: r, d, k, h, hl => gl_great r (Nat.gcd d x.natAbs) k (Nat.dvd_gcd h (hl x List.mem_cons_self)) (fun n hn => hl n (List.mem_cons_of_mem _ hn))
theorem gl_scl (k : Int) : ∀ (l : List Int) (d : Nat), gl (l.map (k * ·)) (k.natAbs * d) = k.natAbs * gl l d
  | [], _ => rfl
  | x :: r, d => by
    have ih := gl_scl k r (Nat.gcd d x.natAbs)
    show gl (r.map (k * ·)) (Nat.gcd (k.natAbs * d) (k * x).natAbs) = k.natAbs * gl r (Nat.gcd d x.natAbs)
    rw [Int.natAbs_mul, Nat.gcd_mul_left, ih]
theorem gl_pos {l : List Int} {d : Nat} (h : 0 < d) : 0 < gl l d := Nat.pos_of_dvd_of_pos (gl_dvd l d).1 h
/-- Two ratios in lowest terms that are equal have the same numbers. -/
theorem low_den {l l' : List Int} {d d' : Nat} (h : gl l d = 1) (hl : l.map ((d' : Int) * ·) = l'.map ((d : Int) * ·)) : d ∣ d' := by
  have h1 := gl_scl (d' : Int) l d
  rw [h, Nat.mul_one, Int.natAbs_natCast, hl, Nat.mul_comm d' d] at h1
  rw [← h1]
  refine gl_great _ _ _ (Nat.dvd_mul_right d d') fun n hn => ?_
  obtain ⟨x, _, rfl⟩ := List.mem_map.1 hn
  rw [Int.natAbs_mul, Int.natAbs_natCast]
  exact Nat.dvd_mul_right _ _
def V6.g (v : V6) (d : Int) : Nat := gl v.l d.natAbs
theorem V6.scl_l (k : Int) (v : V6) : (V6.scl k v).l = v.l.map (k * ·) := rfl
theorem V6.scl_inj {k : Int} {u v : V6} (hk : k ≠ 0) (h : V6.scl k u = V6.scl k v) : u = v := by
  unfold V6.scl at h
  injection h with h1 h2 h3 h4 h5 h6
  exact V6.eq (Int.eq_of_mul_eq_mul_left hk h1) (Int.eq_of_mul_eq_mul_left hk h2) (Int.eq_of_mul_eq_mul_left hk h3) (Int.eq_of_mul_eq_mul_left hk h4) (Int.eq_of_mul_eq_mul_left hk h5) (Int.eq_of_mul_eq_mul_left hk h6)
theorem low_unique {u v : V6} {d e : Int} (hd : 0 < d) (he : 0 < e) (hu : u.g d = 1) (hv : v.g e = 1) (h : V6.scl e u = V6.scl d v) : d = e ∧ u = v := by
  have h1 : u.l.map (((e.natAbs : Nat) : Int) * ·) = v.l.map (((d.natAbs : Nat) : Int) * ·) := by
    rw [show ((e.natAbs : Nat) : Int) = e by omega, show ((d.natAbs : Nat) : Int) = d by omega]
    exact congrArg V6.l h
  have h2 := low_den hu h1
  have h3 := low_den hv h1.symm
  have h4 : d.natAbs = e.natAbs := Nat.dvd_antisymm h2 h3
  have h5 : d = e := by omega
  subst h5
  exact ⟨rfl, V6.scl_inj (by omega) h⟩
def V6.quo (v : V6) (k : Int) : V6 := ⟨v.a.tdiv k, v.b.tdiv k, v.c.tdiv k, v.d.tdiv k, v.e.tdiv k, v.f.tdiv k⟩
/-- The divisor of lowest. -/
def V6.gs (v : V6) (d : Int) : Int := if d < 0 then -(v.g d : Int) else (v.g d : Int)
theorem gs_ne {v : V6} {d : Int} (hd : d ≠ 0) : v.gs d ≠ 0 := by
  have : 0 < v.g d := gl_pos (by omega)
  unfold V6.gs
  split <;> omega
theorem dvd_gs {v : V6} {d n : Int} (h : n ∈ v.l ∨ n = d) : v.gs d ∣ n := by
  have h1 : ((v.g d : Nat) : Int) ∣ n := by
    rw [← Int.dvd_natAbs]
    refine Int.natCast_dvd_natCast.2 ?_
    rcases h with h | h
    · exact (gl_dvd v.l d.natAbs).2 n h
    · subst h; exact (gl_dvd v.l n.natAbs).1
  unfold V6.gs
  split
  · exact Int.neg_dvd.2 h1
  · exact h1
theorem quo_back {v : V6} {d : Int} : V6.scl (v.gs d) (v.quo (v.gs d)) = v ∧ v.gs d * d.tdiv (v.gs d) = d := by
  have m : ∀ n, n ∈ v.l → v.gs d * n.tdiv (v.gs d) = n := fun n hn => Int.mul_tdiv_cancel' (dvd_gs (.inl hn))
  refine ⟨?_, Int.mul_tdiv_cancel' (dvd_gs (.inr rfl))⟩
  unfold V6.scl V6.quo
  apply V6.eq <;> simp only
  · exact m v.a (by simp [V6.l])
  · exact m v.b (by simp [V6.l])
  · exact m v.c (by simp [V6.l])
  · exact m v.d (by simp [V6.l])
  · exact m v.e (by simp [V6.l])
  · exact m v.f (by simp [V6.l])
theorem quo_low {v : V6} {d : Int} (hd : d ≠ 0) : (v.quo (v.gs d)).g (d.tdiv (v.gs d)) = 1 ∧ 0 < d.tdiv (v.gs d) := by
  obtain ⟨b1, b2⟩ := quo_back (v := v) (d := d)
  have hg : 0 < v.g d := gl_pos (by omega)
  have hn : (v.gs d).natAbs = v.g d := by unfold V6.gs; split <;> omega
  have h := gl_scl (v.gs d) (v.quo (v.gs d)).l (d.tdiv (v.gs d)).natAbs
  rw [← V6.scl_l, b1, ← Int.natAbs_mul, b2, hn] at h
  have h' : v.g d = v.g d * (v.quo (v.gs d)).g (d.tdiv (v.gs d)) := h
  constructor
  · have := Nat.eq_of_mul_eq_mul_left hg (h'.symm.trans (Nat.mul_one _).symm)
    exact this
  · have h0 : v.gs d < 0 ∧ d < 0 ∨ 0 < v.gs d ∧ 0 < d := by unfold V6.gs; split <;> omega
    generalize d.tdiv (v.gs d) = q at b2
    generalize v.gs d = G at b2 h0
    rcases h0 with ⟨h1, h2⟩ | ⟨h1, h2⟩
    · rcases Int.lt_trichotomy q 0 with h3 | h3 | h3
      · have := Int.mul_pos_of_neg_of_neg h1 h3; omega
      · subst h3; simp at b2; omega
      · exact h3
    · rcases Int.lt_trichotomy q 0 with h3 | h3 | h3
      · have := Int.mul_neg_of_pos_of_neg h1 h3; omega
      · subst h3; simp at b2; omega
      · exact h3
/-- A ratio's numbers. -/
structure Rt where
  v : V6
  d : Int
theorem Rt.eq {x y : Rt} (h1 : x.v = y.v) (h2 : x.d = y.d) : x = y := by cases x; cases y; simp only at h1 h2; subst h1 h2; rfl
def fitB (n : Int) : Bool := decide (-100000 ≤ n) && decide (n ≤ 100000)
def Rt.fits (r : Rt) : Bool := fitB r.v.a && fitB r.v.b && fitB r.v.c && fitB r.v.d && fitB r.v.e && fitB r.v.f && (decide (1 ≤ r.d) && decide (r.d ≤ 1000))
/-- The error of a ratio. -/
def Rt.err (r : Rt) : Int := if r.fits = true then (if r.v.g r.d = 1 then 0 else 6) else 2
structure Rt.Ok (r : Rt) : Prop where
  fit : r.fits = true
  low : r.v.g r.d = 1
theorem Rt.ok_iff {r : Rt} : r.err = 0 ↔ r.Ok := by
  unfold Rt.err
  constructor
  · intro h
    split at h
    · rename_i h1
      split at h
      · rename_i h2; exact ⟨h1, h2⟩
      · cases h
    · cases h
  · rintro ⟨h1, h2⟩
    rw [if_pos h1, if_pos h2]
theorem fitB_iff {n : Int} : fitB n = true ↔ -100000 ≤ n ∧ n ≤ 100000 := by simp [fitB]
theorem Rt.fits_iff {r : Rt} : r.fits = true ↔ (∀ n ∈ r.v.l, -100000 ≤ n ∧ n ≤ 100000) ∧ 1 ≤ r.d ∧ r.d ≤ 1000 := by
  unfold Rt.fits V6.l
  simp only [Bool.and_eq_true, fitB_iff, decide_eq_true_eq, List.mem_cons, List.not_mem_nil, or_false, forall_eq_or_imp, forall_eq]
  constructor
  · rintro ⟨⟨⟨⟨⟨⟨h1, h2⟩, h3⟩, h4⟩, h5⟩, h6⟩, h7⟩; exact ⟨⟨h1, h2, h3, h4, h5, h6⟩, h7⟩
  · rintro ⟨⟨h1, h2, h3, h4, h5, h6⟩, h7⟩; exact ⟨⟨⟨⟨⟨⟨h1, h2⟩, h3⟩, h4⟩, h5⟩, h6⟩, h7⟩
theorem Rt.Ok.bds {r : Rt} (h : r.Ok) : (∀ n ∈ r.v.l, -100000 ≤ n ∧ n ≤ 100000) ∧ 1 ≤ r.d ∧ r.d ≤ 1000 := Rt.fits_iff.1 h.fit
theorem Rt.Ok.nums {r : Rt} (h : r.Ok) : (-100000 ≤ r.v.a ∧ r.v.a ≤ 100000) ∧ (-100000 ≤ r.v.b ∧ r.v.b ≤ 100000) ∧ (-100000 ≤ r.v.c ∧ r.v.c ≤ 100000) ∧ (-100000 ≤ r.v.d ∧ r.v.d ≤ 100000) ∧ (-100000 ≤ r.v.e ∧ r.v.e ≤ 100000) ∧ (-100000 ≤ r.v.f ∧ r.v.f ≤ 100000) ∧ 1 ≤ r.d ∧ r.d ≤ 1000 := by
  obtain ⟨h1, h2, h3⟩ := h.bds
  unfold V6.l at h1
  simp only [List.mem_cons, List.not_mem_nil, or_false, forall_eq_or_imp, forall_eq] at h1
  obtain ⟨a, b, c, d, e, f⟩ := h1
  exact ⟨a, b, c, d, e, f, h2, h3⟩
def Rt.zero : Rt := ⟨⟨0, 0, 0, 0, 0, 0⟩, 0⟩
/-- What lowest returns: the ratio and the error. -/
def lowR (v : V6) (d : Int) : Rt := ⟨v.quo (v.gs d), d.tdiv (v.gs d)⟩
def lowW (v : V6) (d : Int) : Rt × Int := if (lowR v d).fits = true then (lowR v d, 0) else (Rt.zero, 7)
/-- The ratio that lowest returns is that of the numbers that it got. -/
theorem lowR_val {v : V6} {d : Int} : V6.scl d (lowR v d).v = V6.scl (lowR v d).d v := by
  obtain ⟨b1, b2⟩ := quo_back (v := v) (d := d)
  show V6.scl d (v.quo (v.gs d)) = V6.scl (d.tdiv (v.gs d)) v
  generalize v.quo (v.gs d) = q at *
  generalize d.tdiv (v.gs d) = e at *
  generalize v.gs d = G at *
  rw [← b1, ← b2]
  unfold V6.scl
  apply V6.eq <;> simp only <;> grind
def timesW (x y : Rt) (by_ : Int) : V6 × Int := ((V6.scl y.d x.v).add (V6.scl (by_ * x.d) y.v), x.d * y.d)
/-- Mul and Div. -/
def bothW (x y : Rt) (by_ : Int) : Rt × Int := if x.err = 0 then (if y.err = 0 then lowW (timesW x y by_).1 (timesW x y by_).2 else (Rt.zero, y.err)) else (Rt.zero, x.err)
/-- Pow. -/
def rpowW (x : Rt) (n d : Int) : Rt × Int := if x.err = 0 then (if -1000 ≤ n ∧ n ≤ 1000 ∧ -1000 ≤ d ∧ d ≤ 1000 ∧ d ≠ 0 then lowW (V6.scl n x.v) (x.d * d) else (Rt.zero, 2)) else (Rt.zero, x.err)
end Go.Proofs.YtmbcejldifobnaaDoor

namespace Go.Proofs.YtmbcejldifobnaaDoor
open Go.RowKit
def intT (l : List (Nat × Int)) : List (Int × Int) := l.map fun x => ((x.1 : Int), x.2)
theorem TmC.int {w : World} {B : Nat} {v : Value} {l : List (Nat × Int)} (h : TmC w B v l) : TmI w B v (intT l) := by
  obtain ⟨A, cap, e, hc, h⟩ := h
  have hl : (intT l).length = l.length := by simp [intT]
  refine ⟨A, cap, by rw [hl]; exact e, by rw [hl]; exact hc, fun hne => ?_⟩
  obtain ⟨g, o, e2, hg, hcell⟩ := h (by intro e; rw [e] at hne; exact hne rfl)
  refine ⟨g, o, e2, hg, fun i x hi => ?_⟩
  simp only [intT, List.getElem?_map, Option.map_eq_some_iff] at hi
  obtain ⟨y, hy, rfl⟩ := hi
  exact hcell i y hy
theorem validL.exam {l : List (Nat × Int)} (h : validL l) : examE (intT l) = 0 := by
  unfold examE
  have hl : (intT l).length = l.length := by simp [intT]
  rw [hl, if_neg (by have := h.1; omega), if_pos]
  refine List.all_eq_true.2 fun x hx => ?_
  simp only [intT, List.mem_map] at hx
  obtain ⟨y, hy, rfl⟩ := hx
  have := h.2 y hy
  simp only [termOk, wiB, Bool.and_eq_true, decide_eq_true_eq]
  omega
theorem scL_len (s : Int) (l : List (Nat × Int)) : (scL s l).length = l.length := by simp [scL]
theorem scL_take (s : Int) (l : List (Nat × Int)) {i : Nat} {x : Nat × Int} (h : l[i]? = some x) : scL s (l.take (i + 1)) = scL s (l.take i) ++ [(x.1, x.2 * s)] := by
  rw [List.take_add_one, h]
  simp [scL]
theorem mkT0 (n : Nat) (hn : n ≤ 1000000) (w : World) : ∃ cs : Array Value, cs.size = n * 2 ∧
    (Instr.makeSlice 78 (.int .i64 0) (.int .i64 (n : Int))).run Tryd.prog w = .ok (.slice (some ⟨w.heap.size, 0, none⟩) 0 n) (w.alloc (.cells cs 84)) := by
  obtain ⟨i0, hi, hz0, hz1, hz2⟩ := info_parts Tryd.infoT
  have h := run_make (P := Tryd.prog) w 78 84 i0 _ Tryd.underlying78 hi hz0 .i64 .i64 0 n (by omega) (by omega) (by rw [hz2]; omega) (by omega)
  refine ⟨_, ?_, h⟩
  rw [hz1]
  simp [madeCells]
theorem setCell_heap {w : World} {b i g : Nat} {v : Value} (h : g ≠ b) : (w.setCell ⟨b, i, none⟩ v).heap[g]? = w.heap[g]? := by
  simp [World.setCell, Array.getElem?_modify, h.symm]
theorem setCell_one {w : World} {b : Nat} {u v : Value} {t : TypeId} (h : w.heap[b]? = some (.cells #[u] t (0, 0))) : (w.setCell ⟨b, 0, none⟩ v).heap[b]? = some (.cells #[v] t (0, 0)) := by
  simp [World.setCell, Array.getElem?_modify, h]
theorem PwBox.step {w : World} {B bp bd g cap n : Nat} {l : List (Nat × Int)} {d S : Int} {wr w5 : World} {o1 o2 : Obj} (h : PwBox w B bp bd g cap l d wr)
    (hown : w5.ownsRow B 84 2 (.slice (some ⟨g, 0, none⟩) (l.length + 1) cap) (l.length + 1) (encT l ++ encT [(n, S)])) (hgr : ((wr.alloc o1).alloc o2).grownBy w5 (some g)) (hroom : l.length + 1 < cap) (hne : bp ≠ bd) (hbp : B ≤ bp) :
    PwBox w B bp bd g cap (l ++ [(n, S)]) d (w5.setCell ⟨bp, 0, none⟩ (.slice (some ⟨g, 0, none⟩) (l.length + 1) cap)) := by
  have hr1 : RowT w5 B (.slice (some ⟨g, 0, none⟩) (l ++ [(n, S)]).length cap) (l ++ [(n, S)]) := by
    unfold RowT
    rw [encT_append, List.length_append]
    exact hown
  have hg := hr1.lt g rfl
  have l1 : bp < wr.heap.size := (Array.getElem?_eq_some_iff.1 h.box).1
  have l2 : bd < wr.heap.size := (Array.getElem?_eq_some_iff.1 h.den).1
  have hA : Below wr.heap.size wr ((wr.alloc o1).alloc o2) := ((Below.refl wr.heap.size wr).alloc (Nat.le_refl _) _).alloc (by simp) _
  have hz := hA.size
  have hbox : w5.heap[bp]? = _ := (hgr.block bp (by simp; omega) (fun e => h.ne1 (Option.some.inj e).symm)).trans ((hA.block _ l1).trans h.box)
  have hden : w5.heap[bd]? = _ := (hgr.block bd (by simp; omega) (fun e => h.ne2 (Option.some.inj e).symm)).trans ((hA.block _ l2).trans h.den)
  have hlen : (l ++ [(n, S)]).length = l.length + 1 := by simp
  have hb5 : Below B w w5 := (h.below.trans (hA.mono h.hB)).grown hgr (Nat.le_trans h.hB hz) (fun k hk => by cases hk; exact hg.1)
  refine ⟨hr1.keep fun k e => setCell_heap (by cases e; exact h.ne1), by rw [hlen]; exact hroom, ?_, (setCell_heap hne.symm).trans hden, h.ne1, h.ne2, hb5.setCell hbp _, ?_⟩
  · rw [hlen]; exact setCell_one hbox
  · have : (w5.setCell ⟨bp, 0, none⟩ (.slice (some ⟨g, 0, none⟩) (l.length + 1) cap)).heap.size = w5.heap.size := by simp [World.setCell]
    rw [this]
    exact Nat.le_trans (Nat.le_trans h.hB hz) hgr.size
def FoRel (w : World) (B bp bd g cap : Nat) (l : List (Nat × Int)) (s d : Int) (iv : Value) (wr : World) : Prop :=
  ∃ i : Nat, i ≤ l.length ∧ iv = .int .i64 (i : Int) ∧ PwBox w B bp bd g cap (scL s (l.take i)) d wr
set_option maxRecDepth 100000 in
set_option maxHeartbeats 2000000 in
theorem Floor_any (v : Value) (l : List (Nat × Int)) (d s : Int) (k : Nat) (w : World) (hv : TmC w w.heap.size v l) (hl : validL l) (hd1 : 1 ≤ d) (hd2 : d ≤ 1000000) (hs1 : 1 ≤ s) (hs2 : s ≤ 10000000) (hs : ∀ m : Int, -1000000000000 ≤ m → m ≤ 1000000000001 → SignOk (scL s l ++ [(2, -(m * d))]) k) :
    Calls Tryd.prog 46 #[v, .int .i64 d, .int .i64 s] w fun e w' => SrPost (fun m => sgnP (scL s l ++ [(2, -(m * d))])) (-1000000000000) e ∧ Below w.heap.size w w' := by
  have hex := fun W (h : TmI W W.heap.size v (intT l)) => examine_any v (intT l) W h (by simp [intT]; have := hl.1; omega)
  rw [hl.exam] at hex
  have hlen := hl.1
  have HEX := Lib.hid hex
  have HV := Lib.hid hv
  have HL := Lib.hid hl
  have HS := Lib.hid hs
  clear hex hl hs
  obtain ⟨A, capv, rfl, hcap, -⟩ := id hv
  clear hv
  have hwd : wiB d 1 1000000 = true := by unfold wiB; rw [decide_eq_true hd1, decide_eq_true hd2]; rfl
  have hws : wiB s 1 10000000 = true := by unfold wiB; rw [decide_eq_true hs1, decide_eq_true hs2]; rfl
  have HWD := Lib.hid hwd
  have HWS := Lib.hid hws
  clear hwd hws
  have hb0 : Below w.heap.size w (w.alloc (.cells #[.int .i64 d] 2)) := (Below.refl _ _).alloc (Nat.le_refl _) _
  have HB0 := Lib.hid hb0
  go_enter Tryd.func46, Tryd.ntmps46
  go_wp2_with fail
  refine (HEX.out _ (HV.out.up hb0).int).mono ?_
  rintro e w1 ⟨he, hb1⟩
  subst he
  have hd1' : w1.heap[w.heap.size]? = some (.cells #[.int .i64 d] 2 (0, 0)) := (hb1.block _ (by simp)).trans (heap_alloc_new w _)
  have c0 : w1.cell? ⟨w.heap.size, 0, none⟩ = some (.int .i64 d) := Go.Joins.cell_of_block hd1' 0
  have hB1 : Below w.heap.size w w1 := HB0.out.trans (hb1.mono (by simp))
  have HB1 := Lib.hid hB1
  have HD1 := Lib.hid hd1'
  clear hb0 hb1 hd1' hB1
  go_wp2_with fail
  refine (within_any d 1 1000000 _).mono ?_
  rintro e w2 ⟨he, hw2⟩
  subst he
  subst hw2
  rw [HWD.out]
  go_wp2_with fail
  refine (within_any s 1 10000000 _).mono ?_
  rintro e w2 ⟨he, hw2⟩
  subst he
  subst hw2
  rw [HWS.out]
  obtain ⟨cs, hcs, hmk⟩ := mkT0 (l.length + 1) (by omega) w1
  rw [show ((l.length + 1 : Nat) : Int) = (l.length : Int) + 1 by omega] at hmk
  have HCS := Lib.hid hcs
  clear hcs
  go_wp2
  have hp0 : PwBox w w.heap.size (w1.heap.size + 1) w.heap.size w1.heap.size (l.length + 1) [] d ((w1.alloc (.cells cs 84)).alloc (.cells #[.slice (some ⟨w1.heap.size, 0, none⟩) 0 (l.length + 1)] 78)) := by
    have hz := HB1.out.size
    have hA : Below w1.heap.size w1 ((w1.alloc (.cells cs 84)).alloc (.cells #[.slice (some ⟨w1.heap.size, 0, none⟩) 0 (l.length + 1)] 78)) := ((Below.refl w1.heap.size w1).alloc (Nat.le_refl _) _).alloc (by simp) _
    have hbx := heap_alloc_new (w1.alloc (.cells cs 84)) (.cells #[.slice (some ⟨w1.heap.size, 0, none⟩) 0 (l.length + 1)] 78)
    rw [World.size_alloc] at hbx
    have hlt : w.heap.size < w1.heap.size := (Array.getElem?_eq_some_iff.1 HD1.out).1
    refine ⟨?_, by simp, hbx, (hA.block _ hlt).trans HD1.out, by omega, by omega, HB1.out.trans (hA.mono hz), by simp; omega⟩
    have h0 := World.ownsRow_made (base := w.heap.size) (e := 84) (size := 2) w1 cs (l.length + 1) hz (by unfold maxLen; omega) HCS.out
    exact h0.alloc _
  have hlt0 : w.heap.size < w1.heap.size := (Array.getElem?_eq_some_iff.1 HD1.out).1
  have HP0 := Lib.hid hp0
  clear hp0 hmk c0 HB0 HD1 HEX HWD HWS HB1 HCS
  obtain ⟨G, hG⟩ : ∃ G, w1.heap.size = G := ⟨_, rfl⟩
  rw [hG] at HP0 hlt0 ⊢
  clear hG
  generalize (w1.alloc (.cells cs 84)).alloc (.cells #[.slice (some ⟨G, 0, none⟩) 0 (l.length + 1)] 78) = W0 at *
  go_loopw [32] (fun iv wr => FoRel w w.heap.size (G + 1) w.heap.size G (l.length + 1) l s d iv wr) (fun iv _ => l.length - (intOf iv).toNat)
  case atStart => exact ⟨0, Nat.zero_le _, rfl, HP0.out⟩
  case round =>
    clear HP0
    obtain ⟨i, hi, rfl, hp⟩ := hrel
    have hsl : (scL s (l.take i)).length = i := by rw [scL_len, List.length_take]; omega
    have HP := Lib.hid hp
    have hbox := hp.box
    rw [hsl] at hbox
    have b0 : wr.cell? ⟨G + 1, 0, none⟩ = some (.slice (some ⟨G, 0, none⟩) i (l.length + 1)) := Go.Joins.cell_of_block hbox 0
    by_cases hil : i < l.length
    · obtain ⟨x, hx⟩ : ∃ x, l[i]? = some x := ⟨l[i], List.getElem?_eq_getElem hil⟩
      obtain ⟨A', cap', e, -, hh⟩ := HV.out.keep hp.below
      cases e
      obtain ⟨ga, o, rfl, hga, hcells⟩ := hh (by intro e; rw [e] at hil; simp at hil)
      obtain ⟨a0, a1⟩ := hcells i x hx
      have hilI : (i : Int) < (l.length : Int) := by omega
      have hnx := HL.out.2 x (List.mem_of_getElem? hx)
      have HX := Lib.hid hx
      obtain ⟨n, a⟩ := x
      simp only at a0 a1 hnx
      obtain ⟨S, hS⟩ : ∃ S : Int, a * s = S := ⟨_, rfl⟩
      have hSb : -10000000000000000 ≤ S ∧ S ≤ 10000000000000000 := by
        rw [← hS]
        have a1 := Int.mul_le_mul_of_nonneg_right (show a ≤ 1000000000 by omega) (show 0 ≤ s by omega)
        have a2 := Int.mul_le_mul_of_nonneg_right (show -1000000000 ≤ a by omega) (show 0 ≤ s by omega)
        omega
      have s1 : IntKind.i64.wrap S = S := IntWalk.i64_in _ (by omega)
      have hrow := hp.row
      have hown := hrow.up (((Below.refl wr.heap.size wr).alloc (Nat.le_refl _) (.cells #[.int .i64 (n : Int), .int .i64 a] 84)).alloc (by simp) (.cells #[.int .i64 (n : Int), .int .i64 S] 84))
      unfold RowT at hown
      rw [hsl] at hown
      have HOWN := Lib.hid hown
      have HBX := Lib.hid hbox
      have hne := hp.ne1
      have hlt1 : G + 1 < wr.heap.size := (Array.getElem?_eq_some_iff.1 hbox).1
      have HSL := Lib.hid hsl
      obtain ⟨i0, hi0, hz0, hz1, hz2⟩ := info_parts Tryd.infoT
      clear hx hh hcells hp hrow hown hbox hsl
      go_wp2_with (at_builtin; refine wpList_append_fits _ rfl (.tmp 36) (.tmp 44) 78 rfl w.heap.size 84 i0 2 Tryd.underlying78 hi0 hz1 G i (l.length + 1) (encT (scL s (l.take i))) rfl HOWN.out ⟨wr.heap.size + 1, 0, none⟩ 1 1 (encT [(n, S)]) rfl rfl (World.news_of_block (cs := #[.int .i64 (n : Int), .int .i64 S]) (t := 84) (fr := (0, 0)) (by have h := heap_alloc_new (wr.alloc (.cells #[.int .i64 (n : Int), .int .i64 a] 84)) (.cells #[.int .i64 (n : Int), .int .i64 S] 84); rw [World.size_alloc] at h; exact h)) (one_encT _) (by omega) ?_; intro w5 hown5 hgr5; have q0 : w5.heap[G + 1]? = _ := (hgr5.block (G + 1) (by simp; omega) (fun e => absurd (Option.some.inj e) (by omega))).trans (((((Below.refl wr.heap.size wr).alloc (Nat.le_refl _) _).alloc (by simp) _).block _ hlt1).trans HBX.out); have q1 := Go.Joins.cell_of_block q0 0; have q2 : w5.frozen? ⟨G + 1, 0, none⟩ = false := by (simp [World.frozen?, q0]))
      have hp := HP.out
      have hsl := HSL.out
      refine ⟨⟨i + 1, by omega, by go_num, ?_⟩, by simp [intOf]; omega⟩
      have h := PwBox.step (n := n) (S := S) hp (by rw [hsl]; exact hown5) hgr5 (by rw [hsl]; omega) (by omega) (by omega)
      rw [hsl] at h
      rw [scL_take s l HX.out]
      show PwBox _ _ _ _ _ _ (scL s (l.take i) ++ [(n, a * s)]) _ _
      rw [hS]
      exact h
    · obtain rfl : i = l.length := by omega
      rw [List.take_length] at hp
      have HPW := Lib.hid hp
      have hsr := search_floor (.pointer (some ⟨G + 1, 0, none⟩)) (.pointer (some ⟨w.heap.size, 0, none⟩)) (PwBox w w.heap.size (G + 1) w.heap.size G (l.length + 1) (scL s l) d) (fun m => sgnP (scL s l ++ [(2, -(m * d))])) (-1000000000000) wr (by omega) (by omega) (fun W n h => h.drewN n)
        (fun m W m1 m2 h => floorC w w.heap.size (G + 1) w.heap.size G (l.length + 1) (scL s l) d m k W h (by omega) m2 hd1 hd2 (HS.out m (by omega) m2)) hp
      have HSR := Lib.hid hsr
      clear hsr hp b0 HP hbox hsl
      go_wp2_with fail
      refine HSR.out.mono ?_
      rintro e w2 ⟨hsp, hI⟩
      have HI := Lib.hid hI.below
      clear hI
      rcases hsp with ⟨hc, he⟩ | ⟨hc, m, m1, m2, m3, m4, he⟩
      · have HC := Lib.hid hc
        clear hc
        subst he
        go_wp2
        go_ret3
        exact ⟨.inl ⟨HC.out, rfl⟩, HI.out⟩
      · have HC := Lib.hid hc
        have H3 := Lib.hid m3
        have H4 := Lib.hid m4
        clear hc m3 m4
        subst he
        go_wp2
        go_ret3
        exact ⟨.inr ⟨HC.out, m, m1, m2, H3.out, H4.out, rfl⟩, HI.out⟩
end Go.Proofs.YtmbcejldifobnaaDoor

namespace Go.Proofs.YtmbcejldifobnaaDoor
open Go.RowKit
theorem belA (w : World) (o : Obj) : Below w.heap.size w (w.alloc o) := (Below.refl _ _).alloc (Nat.le_refl _) _
theorem idx6 (x0 x1 x2 x3 x4 x5 : Int) (i : Nat) (n : Int) (h : [x0, x1, x2, x3, x4, x5][i]? = some n) (w : World) :
    (Instr.index 22 (.agg #[.int .i64 x0, .int .i64 x1, .int .i64 x2, .int .i64 x3, .int .i64 x4, .int .i64 x5]) (.int .i64 (i : Int))).run Tryd.prog w = .ok (.int .i64 n) w := by
  match i, h with
  | 0, h => cases h; simp [Instr.index, run_underlying Tryd.underlying22, asIntOf, go_sem]
  | 1, h => cases h; simp [Instr.index, run_underlying Tryd.underlying22, asIntOf, go_sem]
  | 2, h => cases h; simp [Instr.index, run_underlying Tryd.underlying22, asIntOf, go_sem]
  | 3, h => cases h; simp [Instr.index, run_underlying Tryd.underlying22, asIntOf, go_sem]
  | 4, h => cases h; simp [Instr.index, run_underlying Tryd.underlying22, asIntOf, go_sem]
  | 5, h => cases h; simp [Instr.index, run_underlying Tryd.underlying22, asIntOf, go_sem]
def FiRel (l : List Int) (iv : Value) : Prop := ∃ i : Nat, i ≤ 6 ∧ iv = .int .i64 (i : Int) ∧ (∀ n ∈ l.take i, fitB n = true)
theorem fits_list {x0 x1 x2 x3 x4 x5 dn : Int} : Rt.fits ⟨⟨x0, x1, x2, x3, x4, x5⟩, dn⟩ = (([x0, x1, x2, x3, x4, x5].all fitB) && wiB dn 1 1000) := by
  unfold Rt.fits wiB
  simp only [List.all_cons, List.all_nil, Bool.and_true, Bool.and_assoc]
theorem wiB_fit (n : Int) : wiB n (-100000) 100000 = fitB n := rfl
set_option maxRecDepth 100000 in
set_option maxHeartbeats 1000000 in
theorem fits_any (x0 x1 x2 x3 x4 x5 dn : Int) (w : World) :
    Calls Tryd.prog 47 #[.agg #[.int .i64 x0, .int .i64 x1, .int .i64 x2, .int .i64 x3, .int .i64 x4, .int .i64 x5, .int .i64 dn]] w fun e w' => e = .returned (.bool (Rt.fits ⟨⟨x0, x1, x2, x3, x4, x5⟩, dn⟩)) ∧ Below w.heap.size w w' := by
  go_enter Tryd.func47, Tryd.ntmps47
  go_wp2
  go_loop [7] (fun iv => FiRel [x0, x1, x2, x3, x4, x5] iv) (fun iv => 6 - (intOf iv).toNat)
  case atStart => exact ⟨0, Nat.zero_le _, rfl, fun n h => by cases h⟩
  case round =>
    obtain ⟨i, hi, rfl, hok⟩ := hrel
    have HOK := Lib.hid hok
    clear hok
    by_cases hil : i < 6
    · obtain ⟨n, hn⟩ : ∃ n, [x0, x1, x2, x3, x4, x5][i]? = some n := ⟨[x0, x1, x2, x3, x4, x5][i], List.getElem?_eq_getElem _⟩
      have hix := idx6 x0 x1 x2 x3 x4 x5 i n hn
      have hilI : (i : Int) < 6 := by omega
      have HN := Lib.hid hn
      clear hn
      go_wp2_with fail
      refine (within_any n (-100000) 100000 _).mono ?_
      rintro e w2 ⟨he, hw2⟩
      subst he
      subst hw2
      rw [wiB_fit]
      by_cases hf : fitB n = true
      · rw [hf]
        have HF := Lib.hid hf
        clear hf
        go_wp2
        refine ⟨⟨i + 1, by omega, by go_num, fun y hy => ?_⟩, by simp [intOf]; omega⟩
        rw [List.take_add_one, HN.out, List.mem_append] at hy
        rcases hy with h | h
        · exact HOK.out y h
        · simp at h; subst h; exact HF.out
      · have hf : fitB n = false := by simpa using hf
        rw [hf]
        have HF := Lib.hid hf
        clear hf
        go_wp2
        go_ret
        refine ⟨?_, belA w _⟩
        rw [fits_list]
        have h : [x0, x1, x2, x3, x4, x5].all fitB = false := by
          rw [Bool.eq_false_iff]
          intro h
          have := List.all_eq_true.1 h n (List.mem_of_getElem? HN.out)
          rw [HF.out] at this
          cases this
        rw [h]
        rfl
    · obtain rfl : i = 6 := by omega
      go_wp2_with fail
      refine (within_any dn 1 1000 _).mono ?_
      rintro e w2 ⟨he, hw2⟩
      subst he
      subst hw2
      go_wp2
      go_ret
      refine ⟨?_, belA w _⟩
      rw [fits_list]
      have h : [x0, x1, x2, x3, x4, x5].all fitB = true := List.all_eq_true.2 fun y hy => HOK.out y (by simpa using hy)
      rw [h]
      rfl
def CoRel (w : World) (l : List Int) (d : Int) (dv iv : Value) (wr : World) : Prop := ∃ (i : Nat) (e : Int), i ≤ 6 ∧ iv = .int .i64 (i : Int) ∧ dv = .int .i64 e ∧ (-1000000000000 ≤ e ∧ e ≤ 1000000000000) ∧ (gl (l.drop i) e.natAbs = gl l d.natAbs) ∧ (0 < i → 0 ≤ e) ∧ Below w.heap.size w wr
theorem gl_bound : ∀ (l : List Int) (d M : Nat), d ≤ M → (∀ n ∈ l, n.natAbs ≤ M) → gl l d ≤ M
  | [], _, _, h, _ => h
  | x :: r, d, M, h, hl => by
    refine gl_bound r (Nat.gcd d x.natAbs) M ?_ (fun n hn => hl n (List.mem_cons_of_mem _ hn))
    rcases Nat.eq_zero_or_pos d with h0 | h0
    · subst h0; rw [Nat.gcd_zero_left]; exact hl x List.mem_cons_self
    · exact Nat.le_trans (Nat.gcd_le_left _ h0) h
set_option maxRecDepth 100000 in
set_option maxHeartbeats 1000000 in
theorem common_any (x0 x1 x2 x3 x4 x5 d : Int) (w : World) (hd : -1000000000000 ≤ d ∧ d ≤ 1000000000000) (hx : ∀ n ∈ [x0, x1, x2, x3, x4, x5], -1000000000000 ≤ n ∧ n ≤ 1000000000000) :
    Calls Tryd.prog 88 #[.agg #[.int .i64 x0, .int .i64 x1, .int .i64 x2, .int .i64 x3, .int .i64 x4, .int .i64 x5], .int .i64 d] w fun e w' => e = .returned (.int .i64 ((V6.g ⟨x0, x1, x2, x3, x4, x5⟩ d : Nat) : Int)) ∧ Below w.heap.size w w' := by
  have HX := Lib.hid hx
  clear hx
  go_enter Tryd.func88, Tryd.ntmps88
  go_wp2
  go_loopw [1, 8] (fun dv iv wr => CoRel w [x0, x1, x2, x3, x4, x5] d dv iv wr) (fun _ iv _ => 6 - (intOf iv).toNat)
  case atStart => exact ⟨0, d, Nat.zero_le _, rfl, rfl, hd, rfl, fun h => absurd h (by omega), belA w _⟩
  case round =>
    obtain ⟨i, e, hi, rfl, rfl, he, hg, hp, hb⟩ := hrel
    have HG := Lib.hid hg
    have HB := Lib.hid hb
    have HP := Lib.hid hp
    clear hg hb hp
    by_cases hil : i < 6
    · obtain ⟨n, hn⟩ : ∃ n, [x0, x1, x2, x3, x4, x5][i]? = some n := ⟨[x0, x1, x2, x3, x4, x5][i], List.getElem?_eq_getElem _⟩
      have hix := idx6 x0 x1 x2 x3 x4 x5 i n hn
      have hilI : (i : Int) < 6 := by omega
      have hnb := HX.out n (List.mem_of_getElem? hn)
      have hdr : [x0, x1, x2, x3, x4, x5].drop i = n :: [x0, x1, x2, x3, x4, x5].drop (i + 1) := by
        have h1 := List.drop_eq_getElem_cons (l := [x0, x1, x2, x3, x4, x5]) (i := i) (by simpa using hil)
        rw [h1]
        congr 1
        rw [List.getElem?_eq_getElem (by simpa using hil)] at hn
        exact Option.some.inj hn
      have HDR := Lib.hid hdr
      clear hn hdr
      go_wp2_with fail
      refine (gcd_int e n 1000000000000 _ (by omega) (by omega) (by omega) (by omega) (by omega)).mono ?_
      rintro e2 w2 ⟨he2, hdr2⟩
      subst he2
      have hgb : Nat.gcd e.natAbs n.natAbs ≤ 1000000000000 := gl_bound [n] e.natAbs 1000000000000 (by omega) (fun m hm => by simp at hm; subst hm; omega)
      generalize hq : Nat.gcd e.natAbs n.natAbs = q at *
      have HQ := Lib.hid hq
      clear hq
      go_wp2
      refine ⟨⟨i + 1, (q : Int), by omega, by go_num, rfl, by omega, ?_, fun _ => by omega, HB.out.trans (hdr2.below.mono HB.out.size)⟩, by simp [intOf]; omega⟩
      rw [← HG.out, HDR.out, Int.natAbs_natCast, ← HQ.out]
      rfl
    · obtain rfl : i = 6 := by omega
      have hq := HG.out
      have hp := HP.out (by omega)
      have he2 : e = ((V6.g ⟨x0, x1, x2, x3, x4, x5⟩ d : Nat) : Int) := by
        show e = ((gl [x0, x1, x2, x3, x4, x5] d.natAbs : Nat) : Int)
        rw [← hq]
        show e = ((e.natAbs : Nat) : Int)
        omega
      have HE := Lib.hid he2
      clear hq he2
      go_wp2
      go_ret
      exact ⟨ret_int HE.out, HB.out⟩
end Go.Proofs.YtmbcejldifobnaaDoor

namespace Go.Proofs.YtmbcejldifobnaaDoor
open Go.RowKit
def cellsR (r : Rt) : List Value := [.int .i64 r.v.a, .int .i64 r.v.b, .int .i64 r.v.c, .int .i64 r.v.d, .int .i64 r.v.e, .int .i64 r.v.f, .int .i64 r.d]
structure CellR (w : World) (g o : Nat) (r : Rt) : Prop where
  c0 : w.cell? ⟨g, o, none⟩ = some (.int .i64 r.v.a)
  c1 : w.cell? ⟨g, o + 1, none⟩ = some (.int .i64 r.v.b)
  c2 : w.cell? ⟨g, o + 2, none⟩ = some (.int .i64 r.v.c)
  c3 : w.cell? ⟨g, o + 3, none⟩ = some (.int .i64 r.v.d)
  c4 : w.cell? ⟨g, o + 4, none⟩ = some (.int .i64 r.v.e)
  c5 : w.cell? ⟨g, o + 5, none⟩ = some (.int .i64 r.v.f)
  c6 : w.cell? ⟨g, o + 6, none⟩ = some (.int .i64 r.d)
theorem CellR.below {w w' : World} {B g o : Nat} {r : Rt} (h : CellR w g o r) (hb : Below B w w') (hg : g < B) : CellR w' g o r :=
  ⟨(hb.cell (p := ⟨g, _, none⟩) hg).trans h.c0, (hb.cell (p := ⟨g, _, none⟩) hg).trans h.c1, (hb.cell (p := ⟨g, _, none⟩) hg).trans h.c2, (hb.cell (p := ⟨g, _, none⟩) hg).trans h.c3, (hb.cell (p := ⟨g, _, none⟩) hg).trans h.c4, (hb.cell (p := ⟨g, _, none⟩) hg).trans h.c5, (hb.cell (p := ⟨g, _, none⟩) hg).trans h.c6⟩
def exR : List Rt → Int
  | [] => 0
  | r :: rs => if r.err = 0 then exR rs else r.err
theorem exR_bad : ∀ {rs : List Rt} {i : Nat} {r : Rt}, rs[i]? = some r → (∀ x ∈ rs.take i, x.err = 0) → r.err ≠ 0 → exR rs = r.err
  | [], i, r, h, _, _ => by simp at h
  | x :: rs, 0, r, h, _, hr => by
    simp at h; subst h
    unfold exR; rw [if_neg hr]
  | x :: rs, i + 1, r, h, h0, hr => by
    unfold exR
    rw [if_pos (h0 x (by simp)), exR_bad (rs := rs) (by simpa using h) (fun y hy => h0 y (by simp [hy])) hr]
theorem exR_ok : ∀ {rs : List Rt}, (∀ x ∈ rs, x.err = 0) → exR rs = 0
  | [], _ => rfl
  | x :: rs, h => by unfold exR; rw [if_pos (h x (by simp)), exR_ok fun y hy => h y (by simp [hy])]
def ErRel (w : World) (rs : List Rt) (iv : Value) (wr : World) : Prop :=
  ∃ i : Nat, i ≤ rs.length ∧ iv = .int .i64 (i : Int) ∧ (∀ x ∈ rs.take i, x.err = 0) ∧ Below w.heap.size w wr
set_option maxRecDepth 100000 in
set_option maxHeartbeats 2000000 in
theorem examineR_any (g : Nat) (rs : List Rt) (w : World) (hg : g < w.heap.size) (hc : ∀ i r, rs[i]? = some r → CellR w g (i * 7) r) (hl : rs.length ≤ 1000) :
    Calls Tryd.prog 39 #[.slice (some ⟨g, 0, none⟩) rs.length rs.length] w fun e w' => e = .returned (.int .i64 (exR rs)) ∧ Below w.heap.size w w' := by
  have HC := Lib.hid hc
  clear hc
  go_enter Tryd.func39, Tryd.ntmps39
  go_wp2
  go_loopw [7] (fun iv wr => ErRel w rs iv wr) (fun iv _ => rs.length - (intOf iv).toNat)
  case atStart => exact ⟨0, Nat.zero_le _, rfl, fun x h => (by cases h), Below.refl _ _⟩
  case round =>
    obtain ⟨i, hi, rfl, hok, hb⟩ := hrel
    have HOK := Lib.hid hok
    have HB := Lib.hid hb
    clear hok hb
    by_cases hil : i < rs.length
    · obtain ⟨r, hr⟩ : ∃ r, rs[i]? = some r := ⟨rs[i], List.getElem?_eq_getElem hil⟩
      obtain ⟨c0, c1, c2, c3, c4, c5, c6⟩ := (HC.out i r hr).below HB.out hg
      have hilI : (i : Int) < (rs.length : Int) := by omega
      have HR := Lib.hid hr
      clear hr
      obtain ⟨⟨x0, x1, x2, x3, x4, x5⟩, dn⟩ := r
      simp only at c0 c1 c2 c3 c4 c5 c6
      go_wp2_with fail
      refine (fits_any x0 x1 x2 x3 x4 x5 dn _).mono ?_
      rintro e w2 ⟨he, hb2⟩
      subst he
      have hb2' := HB.out.trans (((belA wr _).mono HB.out.size).trans (hb2.mono (by simp; have := HB.out.size; omega)))
      have hnew : w2.heap[wr.heap.size]? = some (.cells #[.int .i64 x0, .int .i64 x1, .int .i64 x2, .int .i64 x3, .int .i64 x4, .int .i64 x5, .int .i64 dn] 24 (0, 0)) := (hb2.block _ (by simp)).trans (heap_alloc_new wr _)
      have hz2 : w.heap.size ≤ w2.heap.size := hb2'.size
      have HB2 := Lib.hid hb2'
      clear hb2 hb2'
      by_cases hf : Rt.fits ⟨⟨x0, x1, x2, x3, x4, x5⟩, dn⟩ = true
      · rw [hf]
        have hfi := Rt.fits_iff.1 hf
        have k0 := Go.Joins.cell_of_block hnew 0
        have k1 := Go.Joins.cell_of_block hnew 1
        have k2 := Go.Joins.cell_of_block hnew 2
        have k3 := Go.Joins.cell_of_block hnew 3
        have k4 := Go.Joins.cell_of_block hnew 4
        have k5 := Go.Joins.cell_of_block hnew 5
        have k6 := Go.Joins.cell_of_block hnew 6
        simp only [List.getElem?_toArray, List.getElem?_cons_zero, List.getElem?_cons_succ] at k0 k1 k2 k3 k4 k5 k6
        have HF := Lib.hid hf
        have HFI := Lib.hid hfi
        clear hf hfi hnew c0 c1 c2 c3 c4 c5 c6
        go_wp2_with fail
        refine (common_any x0 x1 x2 x3 x4 x5 dn _ (by have := HFI.out.2; omega) (fun n hn => by have := HFI.out.1 n hn; omega)).mono ?_
        rintro e w3 ⟨he, hb3⟩
        subst he
        have hb3' := HB2.out.trans (hb3.mono hz2)
        have HB3 := Lib.hid hb3'
        clear hb3 hb3'
        have herr : Rt.err ⟨⟨x0, x1, x2, x3, x4, x5⟩, dn⟩ = if V6.g ⟨x0, x1, x2, x3, x4, x5⟩ dn = 1 then 0 else 6 := by unfold Rt.err; rw [if_pos HF.out]
        generalize hG : V6.g ⟨x0, x1, x2, x3, x4, x5⟩ dn = G at *
        have HER := Lib.hid herr
        clear herr hG
        by_cases h1 : G = 1
        · subst h1
          go_wp2
          refine ⟨⟨i + 1, by omega, by go_num, ?_, HB3.out⟩, by simp [intOf]; omega⟩
          intro y hy
          rw [List.take_add_one, HR.out, List.mem_append] at hy
          rcases hy with h | h
          · exact HOK.out y h
          · simp at h; subst h; rw [HER.out]; simp
        · have h1b : ((G : Int) != 1) = true := by simp; omega
          have h1c : ¬ (G : Int) = 1 := by omega
          go_wp2
          go_ret
          refine ⟨?_, HB3.out⟩
          rw [exR_bad HR.out HOK.out (by rw [HER.out, if_neg h1]; omega), HER.out, if_neg h1]
          rfl
      · have hf : Rt.fits ⟨⟨x0, x1, x2, x3, x4, x5⟩, dn⟩ = false := by simpa using hf
        rw [hf]
        have herr : Rt.err ⟨⟨x0, x1, x2, x3, x4, x5⟩, dn⟩ = 2 := by unfold Rt.err; rw [if_neg (by simp [hf])]
        have HER := Lib.hid herr
        clear hf herr
        go_wp2
        go_ret
        refine ⟨?_, HB2.out⟩
        rw [exR_bad HR.out HOK.out (by rw [HER.out]; omega), HER.out]
        rfl
    · obtain rfl : i = rs.length := by omega
      have hE : exR rs = 0 := exR_ok fun x hx => HOK.out x (by rw [List.take_length]; exact hx)
      go_wp2
      go_ret
      exact ⟨by rw [hE]; rfl, HB.out⟩
end Go.Proofs.YtmbcejldifobnaaDoor
