import Derived.Test.YtmbcejldifobnaaDoorC03
import Derived.OwnWalk
import Derived.Test.YtmbcejldifobnaaDoorC02
import Derived.Test.YtmbcejldifobnaaDoorC01
import Derived.Deep.QuietTactic
import Derived.BigQuiet
import Derived.Deep.MidRow
import Derived.Deep.WholeRow
import Derived.Deep.Strs
import Derived.Test.YtmbcejldifobnaaDoorCards
import Derived.OpenShut
import Derived.Lib.LaidTab
import Derived.Lib.SmallJoins
import Derived.Carry
import Derived.ProofKit
import Derived.Deep.DeepHandedRow
import Derived.Deep.SlicePairs
import Derived.Deep.Slices
import Derived.Deep.Fields
import Derived.ChangeSame
import Derived.Shelf.Small.Bits
import Derived.Test.YtmbcejldifobnaaDoorProg
namespace Go.Proofs.YtmbcejldifobnaaDoor
open Go.RowKit
def TmI (w : World) (B : Nat) (v : Value) (l : List (Int × Int)) : Prop :=
  ∃ A cap, v = .slice A l.length cap ∧ l.length ≤ cap ∧ (l ≠ [] → ∃ g o, A = some ⟨g, o, none⟩ ∧ g < B ∧ ∀ i x, l[i]? = some x → w.cell? ⟨g, o + i * 2, none⟩ = some (.int .i64 x.1) ∧ w.cell? ⟨g, o + i * 2 + 1, none⟩ = some (.int .i64 x.2))
theorem TmI.keep {w w' : World} {B : Nat} {v : Value} {l : List (Int × Int)} (h : TmI w B v l) (hb : Below B w w') : TmI w' B v l := by
  obtain ⟨A, cap, e, hc, h⟩ := h
  refine ⟨A, cap, e, hc, fun hne => ?_⟩
  obtain ⟨g, o, e2, hg, hx⟩ := h hne
  exact ⟨g, o, e2, hg, fun i x hi => ⟨(hb.cell (p := ⟨g, _, none⟩) hg).trans (hx i x hi).1, (hb.cell (p := ⟨g, _, none⟩) hg).trans (hx i x hi).2⟩⟩
def termOk (x : Int × Int) : Bool := wiB x.1 1 1000000000000 && wiB x.2 (-1000000000) 1000000000
/-- The error of bad terms. -/
def examE (l : List (Int × Int)) : Int := if 16 < l.length then 3 else if l.all termOk then 0 else 2
def ExRel (w : World) (l : List (Int × Int)) (iv : Value) (wr : World) : Prop :=
  ∃ i : Nat, i ≤ l.length ∧ iv = .int .i64 (i : Int) ∧ (∀ x ∈ l.take i, termOk x = true) ∧ Below w.heap.size w wr
set_option maxRecDepth 100000 in
set_option maxHeartbeats 2000000 in
theorem examine_any (v : Value) (l : List (Int × Int)) (w : World) (hv : TmI w w.heap.size v l) (hl : l.length ≤ 1000000) :
    Calls Tryd.prog 95 #[v] w fun e w' => e = .returned (.int .i64 (examE l)) ∧ Below w.heap.size w w' := by
  obtain ⟨A, cap, rfl, hcap, -⟩ := id hv
  have HV := Lib.hid hv
  clear hv
  by_cases h16 : 16 < l.length
  · have hE : examE l = 3 := by unfold examE; rw [if_pos h16]
    rw [hE]
    have h16' : (16 : Int) < (l.length : Int) := by omega
    go_enter Tryd.func95, Tryd.ntmps95
    go_wp2
    go_ret
    exact ⟨rfl, Below.refl _ _⟩
  have h16' : ¬ (16 : Int) < (l.length : Int) := by omega
  go_enter Tryd.func95, Tryd.ntmps95
  go_wp2
  go_loopw [10] (fun iv wr => ExRel w l iv wr) (fun iv _ => l.length - (intOf iv).toNat)
  case atStart => exact ⟨0, Nat.zero_le _, rfl, fun x h => (by cases h), Below.refl _ _⟩
  case round =>
    obtain ⟨i, hi, rfl, hok, hb⟩ := hrel
    have HOK := Lib.hid hok
    have HB := Lib.hid hb
    clear hok hb
    by_cases hil : i < l.length
    · obtain ⟨x, hx⟩ : ∃ x, l[i]? = some x := ⟨l[i], List.getElem?_eq_getElem hil⟩
      obtain ⟨A', cap', e, -, hh⟩ := HV.out.keep HB.out
      cases e
      obtain ⟨g, o, rfl, hg, hcells⟩ := hh (by intro e; rw [e] at hil; simp at hil)
      obtain ⟨c0, c1⟩ := hcells i x hx
      have hilI : (i : Int) < (l.length : Int) := by omega
      have HX := Lib.hid hx
      clear hx hh hcells
      have hbad : termOk x = false → examE l = 2 := fun h => by
        unfold examE
        rw [if_neg h16, if_neg]
        intro h2
        rw [List.all_eq_true.1 h2 x (List.mem_of_getElem? HX.out)] at h
        cases h
      have HBAD := Lib.hid hbad
      clear hbad
      obtain ⟨n, a⟩ := x
      simp only at c0 c1
      go_wp2_with fail
      refine (within_any n 1 1000000000000 _).mono ?_
      rintro e w2 ⟨he, hw2⟩
      subst he
      subst hw2
      by_cases hn : wiB n 1 1000000000000 = true
      · rw [hn]
        go_wp2_with fail
        refine (within_any a (-1000000000) 1000000000 _).mono ?_
        rintro e w3 ⟨he, hw3⟩
        subst he
        subst hw3
        by_cases ha : wiB a (-1000000000) 1000000000 = true
        · rw [ha]
          have HT : termOk (n, a) = true := by show (wiB n _ _ && wiB a _ _) = true; rw [hn, ha]; rfl
          go_wp2
          refine ⟨⟨i + 1, by omega, by go_num, ?_, HB.out.alloc HB.out.size _⟩, by simp [intOf]; omega⟩
          intro y hy
          rw [List.take_add_one, HX.out, List.mem_append] at hy
          rcases hy with h | h
          · exact HOK.out y h
          · simp at h
            subst h
            exact HT
        · have ha : wiB a (-1000000000) 1000000000 = false := by simpa using ha
          have HT : termOk (n, a) = false := by show (wiB n _ _ && wiB a _ _) = false; rw [ha, Bool.and_false]
          have hE := HBAD.out HT
          rw [ha]
          go_wp2
          go_ret
          exact ⟨by rw [hE]; rfl, HB.out.alloc HB.out.size _⟩
      · have hn : wiB n 1 1000000000000 = false := by simpa using hn
        have HT : termOk (n, a) = false := by show (wiB n _ _ && wiB a _ _) = false; rw [hn]; rfl
        have hE := HBAD.out HT
        rw [hn]
        go_wp2
        go_ret
        exact ⟨by rw [hE]; rfl, HB.out.alloc HB.out.size _⟩
    · obtain rfl : i = l.length := by omega
      have hE : examE l = 0 := by
        unfold examE
        rw [if_neg h16, if_pos]
        exact List.all_eq_true.2 fun x hx => HOK.out x (by rw [List.take_length]; exact hx)
      go_wp2
      go_ret
      exact ⟨by rw [hE]; rfl, HB.out⟩
end Go.Proofs.YtmbcejldifobnaaDoor

namespace Go.Proofs.YtmbcejldifobnaaDoor
open Go.RowKit
def SrPost (f : Int → Int) (lo : Int) (e : Ending) : Prop :=
  ((f lo < 0 ∨ 0 ≤ f 1000000000001) ∧ e = .returned (.tuple #[.int .i64 0, .bool false, .int .i64 7])) ∨
  (¬ (f lo < 0 ∨ 0 ≤ f 1000000000001) ∧ ∃ m : Int, lo ≤ m ∧ m ≤ 1000000000000 ∧ 0 ≤ f m ∧ f (m + 1) < 0 ∧ e = .returned (.tuple #[.int .i64 m, .bool (f m == 0), .int .i64 0]))
def SrRel (I : World → Prop) (f : Int → Int) (lo : Int) (lv av : Value) (wr : World) : Prop :=
  ∃ a b : Int, lv = .int .i64 a ∧ av = .int .i64 b ∧ lo ≤ a ∧ a < b ∧ b ≤ 1000000000001 ∧ 0 ≤ f a ∧ f b < 0 ∧ I wr
def srM : Value → Value → Nat
  | .int _ a, .int _ b => (b - a).toNat
  | _, _ => 0
set_option maxRecDepth 100000 in
set_option maxHeartbeats 400000 in
theorem search_power (c1 c2 : Value) (I : World → Prop) (f : Int → Int) (lo : Int) (w : World) (h1 : -1000000000000 ≤ lo) (h2 : lo ≤ 0) (hd : ∀ W n, I W → I (W.drewN n))
    (hc : ∀ k W, lo ≤ k → k ≤ 1000000000001 → I W → Calls Tryd.prog 165 #[.int .i64 k, c1, c2] W fun e w' => e = .returned (.int .i64 (f k)) ∧ I w') (hI : I w) :
    Calls Tryd.prog 97 #[.int .i64 lo, .func (.func 165) #[] #[c1, c2]] w fun e w' => SrPost f lo e ∧ I w' := by
  have HC := Lib.hid hc
  have HD := Lib.hid hd
  clear hc hd
  go_enter Tryd.func97, Tryd.ntmps97
  go_wp2_with fail
  refine (HC.out lo w (by omega) (by omega) hI).mono ?_
  rintro e w1 ⟨he, hI1⟩
  subst he
  by_cases hf : f lo < 0
  · have HF := Lib.hid hf
    go_wp2
    first
      | go_ret3
      | go_ret
    exact ⟨.inl ⟨.inl HF.out, rfl⟩, hI1⟩
  go_wp2_with fail
  refine (HC.out 1000000000001 w1 (by omega) (by omega) hI1).mono ?_
  rintro e w2 ⟨he, hI2⟩
  subst he
  by_cases hg : 0 ≤ f 1000000000001
  · have HG := Lib.hid hg
    go_wp2
    first
      | go_ret3
      | go_ret
    exact ⟨.inl ⟨.inr HG.out, rfl⟩, hI2⟩
  have HF := Lib.hid hf
  have HG := Lib.hid hg
  go_wp2
  clear hf hg hI hI1
  go_loopw [7, 8] (fun lv av wr => SrRel I f lo lv av wr) (fun lv av _ => srM lv av)
  case atStart => exact ⟨lo, 1000000000001, rfl, rfl, Int.le_refl _, by omega, Int.le_refl _, HF.out, HG.out, hI2⟩
  case round =>
    obtain ⟨a, b, rfl, rfl, ha, hab, hb, hfa, hfb, hIr⟩ := hrel
    have HFA := Lib.hid hfa
    have HFB := Lib.hid hfb
    clear hfa hfb
    by_cases h1b : 1 < b - a
    · have s1 : IntKind.i64.wrap (b - a) = b - a := IntWalk.i64_in _ (by omega)
      obtain ⟨M, hM⟩ : ∃ M : Int, a + (b - a) / 2 = M := ⟨_, rfl⟩
      have s3 : IntKind.i64.wrap M = M := IntWalk.i64_in _ (by omega)
      go_wp2_with fail
      refine (HC.out M wr (by omega) (by omega) hIr).mono ?_
      rintro e w3 ⟨he, hI3⟩
      subst he
      by_cases hfm : f M < 0
      · have HFM := Lib.hid hfm
        go_wp2
        exact ⟨⟨a, M, rfl, rfl, ha, by omega, by omega, HFA.out, HFM.out, hI3⟩, by show (M - a).toNat < (b - a).toNat; omega⟩
      · have HFM := Lib.hid hfm
        go_wp2
        exact ⟨⟨M, b, rfl, rfl, by omega, by omega, hb, by have := HFM.out; omega, HFB.out, hI3⟩, by show (b - M).toNat < (b - a).toNat; omega⟩
    · obtain rfl : b = a + 1 := by omega
      have s1 : a + 1 - a = 1 := by omega
      have s0 : IntKind.i64.wrap (a + 1 - a) = 1 := by rw [s1]; rfl
      go_wp2_with fail
      refine (HC.out a wr ha (by omega) hIr).mono ?_
      rintro e w3 ⟨he, hI3⟩
      subst he
      go_wp2
      go_ret3
      exact ⟨.inr ⟨by have := HF.out; have := HG.out; omega, a, ha, by omega, HFA.out, HFB.out, rfl⟩, hI3⟩
end Go.Proofs.YtmbcejldifobnaaDoor

namespace Go.Proofs.YtmbcejldifobnaaDoor
open Go.RowKit
theorem RowT.tmc {w : World} {B : Nat} {v : Value} {l : List (Nat × Int)} (h : RowT w B v l) : TmC w w.heap.size v l := by
  obtain ⟨A, cap, rfl, hc, -, hf⟩ := h.form
  refine ⟨A, cap, rfl, hc, fun hne => ?_⟩
  rcases hf with ⟨-, h0, -⟩ | ⟨g, rfl, -, hg, hcell⟩
  · exact absurd (List.eq_nil_of_length_eq_zero h0) hne
  · refine ⟨g, 0, rfl, hg, fun i x hx => ?_⟩
    rw [Nat.zero_add]
    exact hcell i x hx
structure PwBox (w : World) (B bp bd g cap : Nat) (l : List (Nat × Int)) (d : Int) (W : World) : Prop where
  row : RowT W B (.slice (some ⟨g, 0, none⟩) l.length cap) l
  room : l.length < cap
  box : W.heap[bp]? = some (.cells #[.slice (some ⟨g, 0, none⟩) l.length cap] 78 (0, 0))
  den : W.heap[bd]? = some (.cells #[.int .i64 d] 2 (0, 0))
  ne1 : g ≠ bp
  ne2 : g ≠ bd
  below : Below B w W
  hB : B ≤ W.heap.size
theorem PwBox.up {w : World} {B bp bd g cap : Nat} {l : List (Nat × Int)} {d : Int} {W W' : World} (h : PwBox w B bp bd g cap l d W) (hb : Below W.heap.size W W') : PwBox w B bp bd g cap l d W' := by
  have l1 : bp < W.heap.size := (Array.getElem?_eq_some_iff.1 h.box).1
  have l2 : bd < W.heap.size := (Array.getElem?_eq_some_iff.1 h.den).1
  exact ⟨h.row.up hb, h.room, (hb.block _ l1).trans h.box, (hb.block _ l2).trans h.den, h.ne1, h.ne2, h.below.trans (hb.mono h.hB), Nat.le_trans h.hB hb.size⟩
theorem PwBox.drewN {w : World} {B bp bd g cap : Nat} {l : List (Nat × Int)} {d : Int} {W : World} (h : PwBox w B bp bd g cap l d W) (n : Nat) : PwBox w B bp bd g cap l d (W.drewN n) := h.up (Drawn.below ⟨n, rfl⟩)
end Go.Proofs.YtmbcejldifobnaaDoor

namespace Go.Proofs.YtmbcejldifobnaaDoor
structure V6 where
  a : Int
  b : Int
  c : Int
  d : Int
  e : Int
  f : Int
theorem V6.eq {u v : V6} (h1 : u.a = v.a) (h2 : u.b = v.b) (h3 : u.c = v.c) (h4 : u.d = v.d) (h5 : u.e = v.e) (h6 : u.f = v.f) : u = v := by
  cases u; cases v; simp only at h1 h2 h3 h4 h5 h6; subst h1 h2 h3 h4 h5 h6; rfl
def ps6 : List Nat := [2, 3, 5, 7, 11, 13]
def V6.l (v : V6) : List Int := [v.a, v.b, v.c, v.d, v.e, v.f]
def V6.zl (v : V6) : List (Nat × Int) := ps6.zip v.l
def V6.add (u v : V6) : V6 := ⟨u.a + v.a, u.b + v.b, u.c + v.c, u.d + v.d, u.e + v.e, u.f + v.f⟩
def V6.scl (k : Int) (v : V6) : V6 := ⟨k * v.a, k * v.b, k * v.c, k * v.d, k * v.e, k * v.f⟩
def V6.two (v : V6) (x : Int) : V6 := ⟨v.a + x, v.b, v.c, v.d, v.e, v.f⟩
def Sg (v : V6) : Int := sgnP v.zl
theorem zip_add : ∀ (ps : List Nat) (v w : List Int), v.length = ps.length → w.length = ps.length → eqvP (ps.zip (List.zipWith (· + ·) v w)) (ps.zip v ++ ps.zip w)
  | [], _, _, _, _ => by simp [eqvP, upP, dnP]
  | p :: ps, a :: v, b :: w, h1, h2 => by
    have ih := zip_add ps v w (by simpa using h1) (by simpa using h2)
    unfold eqvP at ih ⊢
    rw [upP_append, dnP_append] at ih ⊢
    show p ^ (a + b).toNat * upP (ps.zip (List.zipWith (· + ·) v w)) * (p ^ (-a).toNat * dnP (ps.zip v) * (p ^ (-b).toNat * dnP (ps.zip w))) =
      p ^ (-(a + b)).toNat * dnP (ps.zip (List.zipWith (· + ·) v w)) * (p ^ a.toNat * upP (ps.zip v) * (p ^ b.toNat * upP (ps.zip w)))
    have e : p ^ (a + b).toNat * p ^ (-a).toNat * p ^ (-b).toNat = p ^ (-(a + b)).toNat * p ^ a.toNat * p ^ b.toNat := by
      rw [← Nat.pow_add, ← Nat.pow_add, ← Nat.pow_add, ← Nat.pow_add]; congr 1; omega
    generalize upP (ps.zip (List.zipWith (· + ·) v w)) = U at *
    generalize dnP (ps.zip (List.zipWith (· + ·) v w)) = D at *
    have e1 : p ^ (a + b).toNat * U * (p ^ (-a).toNat * dnP (ps.zip v) * (p ^ (-b).toNat * dnP (ps.zip w))) = p ^ (a + b).toNat * p ^ (-a).toNat * p ^ (-b).toNat * (U * (dnP (ps.zip v) * dnP (ps.zip w))) := by ac_rfl
    have e2 : p ^ (-(a + b)).toNat * D * (p ^ a.toNat * upP (ps.zip v) * (p ^ b.toNat * upP (ps.zip w))) = p ^ (-(a + b)).toNat * p ^ a.toNat * p ^ b.toNat * (D * (upP (ps.zip v) * upP (ps.zip w))) := by ac_rfl
    rw [e1, e2, e, ih]
theorem mul_toNat (k : Nat) (a : Int) : ((k : Int) * a).toNat = a.toNat * k := by
  rcases Int.le_total 0 a with h | h
  · obtain ⟨n, rfl⟩ := Int.eq_ofNat_of_zero_le h
    rw [← Int.natCast_mul, Int.toNat_natCast, Int.toNat_natCast, Nat.mul_comm]
  · rw [show a.toNat = 0 by omega, Nat.zero_mul]
    have := Int.mul_le_mul_of_nonneg_left h (Int.natCast_nonneg k)
    omega
theorem zip_scl (k : Nat) : ∀ (ps : List Nat) (v : List Int), upP (ps.zip (v.map ((k : Int) * ·))) = upP (ps.zip v) ^ k ∧ dnP (ps.zip (v.map ((k : Int) * ·))) = dnP (ps.zip v) ^ k
  | [], _ => by simp [upP, dnP]
  | p :: ps, [] => by simp [upP, dnP]
  | p :: ps, a :: v => by
    obtain ⟨h1, h2⟩ := zip_scl k ps v
    constructor
    · show p ^ ((k : Int) * a).toNat * upP (ps.zip (v.map ((k : Int) * ·))) = (p ^ a.toNat * upP (ps.zip v)) ^ k
      rw [h1, mul_toNat, Nat.pow_mul, Nat.mul_pow]
    · show p ^ (-((k : Int) * a)).toNat * dnP (ps.zip (v.map ((k : Int) * ·))) = (p ^ (-a).toNat * dnP (ps.zip v)) ^ k
      rw [h2, show -((k : Int) * a) = (k : Int) * (-a) by rw [Int.mul_neg], mul_toNat, Nat.pow_mul, Nat.mul_pow]
theorem zip_neg : ∀ (ps : List Nat) (v : List Int), upP (ps.zip (v.map (-·))) = dnP (ps.zip v) ∧ dnP (ps.zip (v.map (-·))) = upP (ps.zip v)
  | [], _ => by simp [upP, dnP]
  | p :: ps, [] => by simp [upP, dnP]
  | p :: ps, a :: v => by
    obtain ⟨h1, h2⟩ := zip_neg ps v
    constructor
    · show p ^ (-a).toNat * upP (ps.zip (v.map (-·))) = _
      rw [h1]; rfl
    · show p ^ (- -a).toNat * dnP (ps.zip (v.map (-·))) = _
      rw [h2, Int.neg_neg]; rfl
theorem zip_pos : ∀ (ps : List Nat) (v : List Int), (∀ p ∈ ps, 1 ≤ p) → posN (ps.zip v)
  | _, _, h => fun x hx => h x.1 (List.of_mem_zip hx).1
theorem V6.pos (v : V6) : posN v.zl := zip_pos _ _ (by decide)
theorem sgn_mul_ge {l u v : List (Nat × Int)} (hl : posN l) (hu : posN u) (hv : posN v) (h : eqvP l (u ++ v)) (h1 : 0 ≤ sgnP u) (h2 : 0 ≤ sgnP v) : 0 ≤ sgnP l := by
  rw [h.sgn hl (posN_append.2 ⟨hu, hv⟩)]
  rw [sgn_ge] at *
  rw [upP_append, dnP_append]
  exact Nat.mul_le_mul h1 h2
theorem add_eqv (u v : V6) : eqvP (u.add v).zl (u.zl ++ v.zl) := zip_add ps6 u.l v.l rfl rfl
theorem Sg_add_ge {u v : V6} (h1 : 0 ≤ Sg u) (h2 : 0 ≤ Sg v) : 0 ≤ Sg (u.add v) := sgn_mul_ge (V6.pos _) u.pos v.pos (add_eqv u v) h1 h2
theorem Sg_neg (v : V6) : Sg (V6.scl (-1) v) = -Sg v := by
  have e : (V6.scl (-1) v).zl = ps6.zip (v.l.map (-·)) := by
    unfold V6.zl V6.scl V6.l
    simp only [List.map_cons, List.map_nil, Int.neg_one_mul]
  obtain ⟨h1, h2⟩ := zip_neg ps6 v.l
  unfold Sg
  rw [e]
  unfold sgnP
  rw [h1, h2]
  show _ = -(if upP (ps6.zip v.l) = dnP (ps6.zip v.l) then 0 else if dnP (ps6.zip v.l) < upP (ps6.zip v.l) then 1 else -1)
  by_cases h3 : upP (ps6.zip v.l) = dnP (ps6.zip v.l)
  · rw [if_pos h3, if_pos h3.symm]; rfl
  · rw [if_neg h3, if_neg (Ne.symm h3)]
    by_cases h4 : dnP (ps6.zip v.l) < upP (ps6.zip v.l)
    · rw [if_pos h4, if_neg (by omega)]
    · rw [if_neg h4, if_pos (by omega)]; rfl
theorem Sg_add_eq {u v : V6} (h1 : Sg u = 0) (h2 : Sg v = 0) : Sg (u.add v) = 0 := by
  have h3 := Sg_add_ge (u := u) (v := v) (by omega) (by omega)
  have h4 := Sg_add_ge (u := V6.scl (-1) u) (v := V6.scl (-1) v) (by rw [Sg_neg]; omega) (by rw [Sg_neg]; omega)
  have e : (V6.scl (-1) u).add (V6.scl (-1) v) = V6.scl (-1) (u.add v) := by
    unfold V6.add V6.scl
    apply V6.eq <;> simp only <;> omega
  rw [e, Sg_neg] at h4
  omega
theorem pow_lt_iff' {a b k : Nat} (hk : 0 < k) : a ^ k < b ^ k ↔ a < b := by
  constructor
  · exact pow_lt_of
  · intro h; exact Nat.pow_lt_pow_left h (by omega)
theorem sgn_pow {l l' : List (Nat × Int)} {k : Nat} (hk : 0 < k) (h1 : upP l' = upP l ^ k) (h2 : dnP l' = dnP l ^ k) : sgnP l' = sgnP l := by
  unfold sgnP
  rw [h1, h2]
  have e : (upP l ^ k = dnP l ^ k) ↔ upP l = dnP l := by
    constructor
    · intro h
      rcases Nat.lt_trichotomy (upP l) (dnP l) with h3 | h3 | h3
      · have := (pow_lt_iff' hk).2 h3; omega
      · exact h3
      · have := (pow_lt_iff' hk).2 h3; omega
    · intro h; rw [h]
  by_cases h3 : upP l = dnP l
  · rw [if_pos h3, if_pos (e.2 h3)]
  · rw [if_neg h3, if_neg (fun h => h3 (e.1 h))]
    by_cases h4 : dnP l < upP l
    · rw [if_pos h4, if_pos ((pow_lt_iff' hk).2 h4)]
    · rw [if_neg h4, if_neg (fun h => h4 ((pow_lt_iff' hk).1 h))]
theorem Sg_scl (k : Int) (v : V6) (hk : 0 < k) : Sg (V6.scl k v) = Sg v := by
  obtain ⟨n, rfl⟩ := Int.eq_ofNat_of_zero_le (Int.le_of_lt hk)
  obtain ⟨h1, h2⟩ := zip_scl n ps6 v.l
  exact sgn_pow (k := n) (by omega) h1 h2
/-- The sign that Floor asks for, at m. -/
def Fl (v : V6) (s d m : Int) : Int := Sg ((V6.scl s v).two (-(m * d)))
/-- m is the floor. -/
def FlIs (v : V6) (s d m : Int) : Prop := 0 ≤ Fl v s d m ∧ Fl v s d (m + 1) < 0
theorem Sg_two {v : V6} {x : Int} (hx : 0 ≤ x) (h : 0 ≤ Sg v) : 0 ≤ Sg (v.two x) := by
  have h2 : 0 ≤ Sg ⟨x, 0, 0, 0, 0, 0⟩ := by
    unfold Sg
    rw [sgn_ge]
    show 2 ^ (-x).toNat * 1 ≤ 2 ^ x.toNat * 1
    rw [show (-x).toNat = 0 by omega]
    simp [Nat.one_le_two_pow]
  have h3 := Sg_add_ge h h2
  have e : v.add ⟨x, 0, 0, 0, 0, 0⟩ = v.two x := by
    unfold V6.add V6.two
    simp only [Int.add_zero]
  rw [e] at h3
  exact h3
theorem Fl_anti {v : V6} {s d : Int} (hd : 0 < d) {a b : Int} (h : a ≤ b) (hb : 0 ≤ Fl v s d b) : 0 ≤ Fl v s d a := by
  have h1 : 0 ≤ (b - a) * d := Int.mul_nonneg (by omega) (by omega)
  have h2 := Sg_two h1 hb
  have e : ((V6.scl s v).two (-(b * d))).two ((b - a) * d) = (V6.scl s v).two (-(a * d)) := by
    unfold V6.two
    apply V6.eq <;> simp only
    grind
  rw [e] at h2
  exact h2
theorem FlIs.le {v : V6} {s d m k : Int} (hd : 0 < d) (h1 : FlIs v s d m) (h2 : 0 ≤ Fl v s d k) : k ≤ m := by
  rcases Int.lt_or_le m k with h | h
  · have := Fl_anti hd (show m + 1 ≤ k by omega) h2
    have := h1.2
    omega
  · exact h
/-- Floors of greater ratios. -/
theorem FlIs.cmp {x y : V6} {s da db m n : Int} (hs : 0 < s) (hda : 0 < da) (hdb : 0 < db) (h1 : FlIs x s da m) (h2 : FlIs y s db n) (h : 0 ≤ Sg ((V6.scl db x).add (V6.scl (-1) (V6.scl da y)))) : n ≤ m := by
  refine h1.le hda ?_
  have h3 := Sg_add_ge (u := V6.scl s ((V6.scl db x).add (V6.scl (-1) (V6.scl da y)))) (v := V6.scl da ((V6.scl s y).two (-(n * db)))) (by rw [Sg_scl _ _ hs]; exact h) (by rw [Sg_scl _ _ hda]; exact h2.1)
  have e : (V6.scl s ((V6.scl db x).add (V6.scl (-1) (V6.scl da y)))).add (V6.scl da ((V6.scl s y).two (-(n * db)))) = V6.scl db ((V6.scl s x).two (-(n * da))) := by
    unfold V6.scl V6.add V6.two
    apply V6.eq <;> simp only <;> grind
  rw [e, Sg_scl _ _ hdb] at h3
  exact h3
theorem FlIs.same {x y : V6} {s da db m n : Int} (hs : 0 < s) (hda : 0 < da) (hdb : 0 < db) (h1 : FlIs x s da m) (h2 : FlIs y s db n) (h : Sg ((V6.scl db x).add (V6.scl (-1) (V6.scl da y))) = 0) : m = n ∧ (Fl x s da m = 0 ↔ Fl y s db n = 0) := by
  have h' : Sg ((V6.scl da y).add (V6.scl (-1) (V6.scl db x))) = 0 := by
    have e : (V6.scl da y).add (V6.scl (-1) (V6.scl db x)) = V6.scl (-1) ((V6.scl db x).add (V6.scl (-1) (V6.scl da y))) := by
      unfold V6.scl V6.add
      apply V6.eq <;> simp only <;> grind
    rw [e, Sg_neg]; omega
  have a1 := FlIs.cmp hs hda hdb h1 h2 (by omega)
  have a2 := FlIs.cmp hs hdb hda h2 h1 (by omega)
  have em : m = n := by omega
  subst em
  refine ⟨rfl, ?_, ?_⟩
  · intro z
    have h3 := Sg_add_eq (u := V6.scl s ((V6.scl da y).add (V6.scl (-1) (V6.scl db x)))) (v := V6.scl db ((V6.scl s x).two (-(m * da)))) (by rw [Sg_scl _ _ hs]; exact h') (by rw [Sg_scl _ _ hdb]; exact z)
    have e : (V6.scl s ((V6.scl da y).add (V6.scl (-1) (V6.scl db x)))).add (V6.scl db ((V6.scl s x).two (-(m * da)))) = V6.scl da ((V6.scl s y).two (-(m * db))) := by
      unfold V6.scl V6.add V6.two
      apply V6.eq <;> simp only <;> grind
    rw [e, Sg_scl _ _ hda] at h3
    exact h3
  · intro z
    have h3 := Sg_add_eq (u := V6.scl s ((V6.scl db x).add (V6.scl (-1) (V6.scl da y)))) (v := V6.scl da ((V6.scl s y).two (-(m * db)))) (by rw [Sg_scl _ _ hs]; exact h) (by rw [Sg_scl _ _ hda]; exact z)
    have e : (V6.scl s ((V6.scl db x).add (V6.scl (-1) (V6.scl da y)))).add (V6.scl da ((V6.scl s y).two (-(m * db)))) = V6.scl db ((V6.scl s x).two (-(m * da))) := by
      unfold V6.scl V6.add V6.two
      apply V6.eq <;> simp only <;> grind
    rw [e, Sg_scl _ _ hdb] at h3
    exact h3
end Go.Proofs.YtmbcejldifobnaaDoor

namespace Go.Proofs.YtmbcejldifobnaaDoor
def gl (l : List Int) (d : Nat) : Nat := l.foldl (fun g n => Nat.gcd g n.natAbs) d
def V6.g (v : V6) (d : Int) : Nat := gl v.l d.natAbs
def V6.quo (v : V6) (k : Int) : V6 := ⟨v.a.tdiv k, v.b.tdiv k, v.c.tdiv k, v.d.tdiv k, v.e.tdiv k, v.f.tdiv k⟩
/-- The divisor of lowest. -/
def V6.gs (v : V6) (d : Int) : Int := if d < 0 then -(v.g d : Int) else (v.g d : Int)
/-- A ratio's numbers. -/
structure Rt where
  v : V6
  d : Int
theorem Rt.eq {x y : Rt} (h1 : x.v = y.v) (h2 : x.d = y.d) : x = y := by cases x; cases y; simp only at h1 h2; subst h1 h2; rfl
def fitB (n : Int) : Bool := decide (-100000 ≤ n) && decide (n ≤ 100000)
def Rt.fits (r : Rt) : Bool := fitB r.v.a && fitB r.v.b && fitB r.v.c && fitB r.v.d && fitB r.v.e && fitB r.v.f && (decide (1 ≤ r.d) && decide (r.d ≤ 1000))
structure Rt.Ok (r : Rt) : Prop where
  fit : r.fits = true
  low : r.v.g r.d = 1
def Rt.zero : Rt := ⟨⟨0, 0, 0, 0, 0, 0⟩, 0⟩
/-- What lowest returns: the ratio and the error. -/
def lowR (v : V6) (d : Int) : Rt := ⟨v.quo (v.gs d), d.tdiv (v.gs d)⟩
end Go.Proofs.YtmbcejldifobnaaDoor

namespace Go.Proofs.YtmbcejldifobnaaDoor
open Go.RowKit
def intT (l : List (Nat × Int)) : List (Int × Int) := l.map fun x => ((x.1 : Int), x.2)
theorem TmC.int {w : World} {B : Nat} {v : Value} {l : List (Nat × Int)} (h : TmC w B v l) : TmI w B v (intT l) := by
  obtain ⟨A, cap, e, hc, h⟩ := h
  have hl : (intT l).length = l.length := by simp [intT]
  refine ⟨A, cap, by rw [hl]; exact e, by rw [hl]; exact hc, fun hne => ?_⟩
  obtain ⟨g, o, e2, hg, hcell⟩ := h (by intro e; rw [e] at hne; exact hne rfl)
  refine ⟨g, o, e2, hg, fun i x hi => ?_⟩
  simp only [intT, List.getElem?_map, Option.map_eq_some_iff] at hi
  obtain ⟨y, hy, rfl⟩ := hi
  exact hcell i y hy
theorem validL.exam {l : List (Nat × Int)} (h : validL l) : examE (intT l) = 0 := by
  unfold examE
  have hl : (intT l).length = l.length := by simp [intT]
  rw [hl, if_neg (by have := h.1; omega), if_pos]
  refine List.all_eq_true.2 fun x hx => ?_
  simp only [intT, List.mem_map] at hx
  obtain ⟨y, hy, rfl⟩ := hx
  have := h.2 y hy
  simp only [termOk, wiB, Bool.and_eq_true, decide_eq_true_eq]
  omega
theorem mkT0 (n : Nat) (hn : n ≤ 1000000) (w : World) : ∃ cs : Array Value, cs.size = n * 2 ∧
    (Instr.makeSlice 78 (.int .i64 0) (.int .i64 (n : Int))).run Tryd.prog w = .ok (.slice (some ⟨w.heap.size, 0, none⟩) 0 n) (w.alloc (.cells cs 84)) := by
  obtain ⟨i0, hi, hz0, hz1, hz2⟩ := info_parts Tryd.infoT
  have h := run_make (P := Tryd.prog) w 78 84 i0 _ Tryd.underlying78 hi hz0 .i64 .i64 0 n (by omega) (by omega) (by rw [hz2]; omega) (by omega)
  refine ⟨_, ?_, h⟩
  rw [hz1]
  simp [madeCells]
theorem setCell_heap {w : World} {b i g : Nat} {v : Value} (h : g ≠ b) : (w.setCell ⟨b, i, none⟩ v).heap[g]? = w.heap[g]? := by
  simp [World.setCell, Array.getElem?_modify, h.symm]
theorem setCell_one {w : World} {b : Nat} {u v : Value} {t : TypeId} (h : w.heap[b]? = some (.cells #[u] t (0, 0))) : (w.setCell ⟨b, 0, none⟩ v).heap[b]? = some (.cells #[v] t (0, 0)) := by
  simp [World.setCell, Array.getElem?_modify, h]
theorem PwBox.step {w : World} {B bp bd g cap n : Nat} {l : List (Nat × Int)} {d S : Int} {wr w5 : World} {o1 o2 : Obj} (h : PwBox w B bp bd g cap l d wr)
    (hown : w5.ownsRow B 84 2 (.slice (some ⟨g, 0, none⟩) (l.length + 1) cap) (l.length + 1) (encT l ++ encT [(n, S)])) (hgr : ((wr.alloc o1).alloc o2).grownBy w5 (some g)) (hroom : l.length + 1 < cap) (hne : bp ≠ bd) (hbp : B ≤ bp) :
    PwBox w B bp bd g cap (l ++ [(n, S)]) d (w5.setCell ⟨bp, 0, none⟩ (.slice (some ⟨g, 0, none⟩) (l.length + 1) cap)) := by
  have hr1 : RowT w5 B (.slice (some ⟨g, 0, none⟩) (l ++ [(n, S)]).length cap) (l ++ [(n, S)]) := by
    unfold RowT
    rw [encT_append, List.length_append]
    exact hown
  have hg := hr1.lt g rfl
  have l1 : bp < wr.heap.size := (Array.getElem?_eq_some_iff.1 h.box).1
  have l2 : bd < wr.heap.size := (Array.getElem?_eq_some_iff.1 h.den).1
  have hA : Below wr.heap.size wr ((wr.alloc o1).alloc o2) := ((Below.refl wr.heap.size wr).alloc (Nat.le_refl _) _).alloc (by simp) _
  have hz := hA.size
  have hbox : w5.heap[bp]? = _ := (hgr.block bp (by simp; omega) (fun e => h.ne1 (Option.some.inj e).symm)).trans ((hA.block _ l1).trans h.box)
  have hden : w5.heap[bd]? = _ := (hgr.block bd (by simp; omega) (fun e => h.ne2 (Option.some.inj e).symm)).trans ((hA.block _ l2).trans h.den)
  have hlen : (l ++ [(n, S)]).length = l.length + 1 := by simp
  have hb5 : Below B w w5 := (h.below.trans (hA.mono h.hB)).grown hgr (Nat.le_trans h.hB hz) (fun k hk => by cases hk; exact hg.1)
  refine ⟨hr1.keep fun k e => setCell_heap (by cases e; exact h.ne1), by rw [hlen]; exact hroom, ?_, (setCell_heap hne.symm).trans hden, h.ne1, h.ne2, hb5.setCell hbp _, ?_⟩
  · rw [hlen]; exact setCell_one hbox
  · have : (w5.setCell ⟨bp, 0, none⟩ (.slice (some ⟨g, 0, none⟩) (l.length + 1) cap)).heap.size = w5.heap.size := by simp [World.setCell]
    rw [this]
    exact Nat.le_trans (Nat.le_trans h.hB hz) hgr.size
end Go.Proofs.YtmbcejldifobnaaDoor

namespace Go.Proofs.YtmbcejldifobnaaDoor
open Go.RowKit
theorem belA (w : World) (o : Obj) : Below w.heap.size w (w.alloc o) := (Below.refl _ _).alloc (Nat.le_refl _) _
theorem idx6 (x0 x1 x2 x3 x4 x5 : Int) (i : Nat) (n : Int) (h : [x0, x1, x2, x3, x4, x5][i]? = some n) (w : World) :
    (Instr.index 22 (.agg #[.int .i64 x0, .int .i64 x1, .int .i64 x2, .int .i64 x3, .int .i64 x4, .int .i64 x5]) (.int .i64 (i : Int))).run Tryd.prog w = .ok (.int .i64 n) w := by
  match i, h with
  | 0, h => cases h; simp [Instr.index, run_underlying Tryd.underlying22, asIntOf, go_sem]
  | 1, h => cases h; simp [Instr.index, run_underlying Tryd.underlying22, asIntOf, go_sem]
  | 2, h => cases h; simp [Instr.index, run_underlying Tryd.underlying22, asIntOf, go_sem]
  | 3, h => cases h; simp [Instr.index, run_underlying Tryd.underlying22, asIntOf, go_sem]
  | 4, h => cases h; simp [Instr.index, run_underlying Tryd.underlying22, asIntOf, go_sem]
  | 5, h => cases h; simp [Instr.index, run_underlying Tryd.underlying22, asIntOf, go_sem]
def FiRel (l : List Int) (iv : Value) : Prop := ∃ i : Nat, i ≤ 6 ∧ iv = .int .i64 (i : Int) ∧ (∀ n ∈ l.take i, fitB n = true)
theorem fits_list {x0 x1 x2 x3 x4 x5 dn : Int} : Rt.fits ⟨⟨x0, x1, x2, x3, x4, x5⟩, dn⟩ = (([x0, x1, x2, x3, x4, x5].all fitB) && wiB dn 1 1000) := by
  unfold Rt.fits wiB
  simp only [List.all_cons, List.all_nil, Bool.and_true, Bool.and_assoc]
theorem wiB_fit (n : Int) : wiB n (-100000) 100000 = fitB n := rfl
set_option maxRecDepth 100000 in
set_option maxHeartbeats 1000000 in
theorem fits_any (x0 x1 x2 x3 x4 x5 dn : Int) (w : World) :
    Calls Tryd.prog 47 #[.agg #[.int .i64 x0, .int .i64 x1, .int .i64 x2, .int .i64 x3, .int .i64 x4, .int .i64 x5, .int .i64 dn]] w fun e w' => e = .returned (.bool (Rt.fits ⟨⟨x0, x1, x2, x3, x4, x5⟩, dn⟩)) ∧ Below w.heap.size w w' := by
  go_enter Tryd.func47, Tryd.ntmps47
  go_wp2
  go_loop [7] (fun iv => FiRel [x0, x1, x2, x3, x4, x5] iv) (fun iv => 6 - (intOf iv).toNat)
  case atStart => exact ⟨0, Nat.zero_le _, rfl, fun n h => by cases h⟩
  case round =>
    obtain ⟨i, hi, rfl, hok⟩ := hrel
    have HOK := Lib.hid hok
    clear hok
    by_cases hil : i < 6
    · obtain ⟨n, hn⟩ : ∃ n, [x0, x1, x2, x3, x4, x5][i]? = some n := ⟨[x0, x1, x2, x3, x4, x5][i], List.getElem?_eq_getElem _⟩
      have hix := idx6 x0 x1 x2 x3 x4 x5 i n hn
      have hilI : (i : Int) < 6 := by omega
      have HN := Lib.hid hn
      clear hn
      go_wp2_with fail
      refine (within_any n (-100000) 100000 _).mono ?_
      rintro e w2 ⟨he, hw2⟩
      subst he
      subst hw2
      rw [wiB_fit]
      by_cases hf : fitB n = true
      · rw [hf]
        have HF := Lib.hid hf
        clear hf
        go_wp2
        refine ⟨⟨i + 1, by omega, by go_num, fun y hy => ?_⟩, by simp [intOf]; omega⟩
        rw [List.take_add_one, HN.out, List.mem_append] at hy
        rcases hy with h | h
        · exact HOK.out y h
        · simp at h; subst h; exact HF.out
      · have hf : fitB n = false := by simpa using hf
        rw [hf]
        have HF := Lib.hid hf
        clear hf
        go_wp2
        go_ret
        refine ⟨?_, belA w _⟩
        rw [fits_list]
        have h : [x0, x1, x2, x3, x4, x5].all fitB = false := by
          rw [Bool.eq_false_iff]
          intro h
          have := List.all_eq_true.1 h n (List.mem_of_getElem? HN.out)
          rw [HF.out] at this
          cases this
        rw [h]
        rfl
    · obtain rfl : i = 6 := by omega
      go_wp2_with fail
      refine (within_any dn 1 1000 _).mono ?_
      rintro e w2 ⟨he, hw2⟩
      subst he
      subst hw2
      go_wp2
      go_ret
      refine ⟨?_, belA w _⟩
      rw [fits_list]
      have h : [x0, x1, x2, x3, x4, x5].all fitB = true := List.all_eq_true.2 fun y hy => HOK.out y (by simpa using hy)
      rw [h]
      rfl
end Go.Proofs.YtmbcejldifobnaaDoor

namespace Go.Proofs.YtmbcejldifobnaaDoor
open Go.RowKit
structure CellR (w : World) (g o : Nat) (r : Rt) : Prop where
  c0 : w.cell? ⟨g, o, none⟩ = some (.int .i64 r.v.a)
  c1 : w.cell? ⟨g, o + 1, none⟩ = some (.int .i64 r.v.b)
  c2 : w.cell? ⟨g, o + 2, none⟩ = some (.int .i64 r.v.c)
  c3 : w.cell? ⟨g, o + 3, none⟩ = some (.int .i64 r.v.d)
  c4 : w.cell? ⟨g, o + 4, none⟩ = some (.int .i64 r.v.e)
  c5 : w.cell? ⟨g, o + 5, none⟩ = some (.int .i64 r.v.f)
  c6 : w.cell? ⟨g, o + 6, none⟩ = some (.int .i64 r.d)
theorem CellR.below {w w' : World} {B g o : Nat} {r : Rt} (h : CellR w g o r) (hb : Below B w w') (hg : g < B) : CellR w' g o r :=
  ⟨(hb.cell (p := ⟨g, _, none⟩) hg).trans h.c0, (hb.cell (p := ⟨g, _, none⟩) hg).trans h.c1, (hb.cell (p := ⟨g, _, none⟩) hg).trans h.c2, (hb.cell (p := ⟨g, _, none⟩) hg).trans h.c3, (hb.cell (p := ⟨g, _, none⟩) hg).trans h.c4, (hb.cell (p := ⟨g, _, none⟩) hg).trans h.c5, (hb.cell (p := ⟨g, _, none⟩) hg).trans h.c6⟩
end Go.Proofs.YtmbcejldifobnaaDoor

namespace Go.Proofs.YtmbcejldifobnaaDoor
open Go.RowKit
def psI : List Int := [2, 3, 5, 7, 11, 13]
structure PrL (W : World) : Prop where
  cell : ∀ (i : Nat) (p : Int), psI[i]? = some p → W.cell? ⟨0, i, none⟩ = some (.int .i64 p)
  lt : 0 < W.heap.size
theorem PrL.below {W W' : World} (h : PrL W) (hb : Below W.heap.size W W') : PrL W' :=
  ⟨fun i p hp => (hb.cell (p := ⟨0, i, none⟩) h.lt).trans (h.cell i p hp), Nat.lt_of_lt_of_le h.lt hb.size⟩
theorem PrL.up {W W' : World} {B : Nat} (h : PrL W) (hB : W.heap.size ≤ B) (hb : Below B W W') : PrL W' := h.below (hb.mono hB)
end Go.Proofs.YtmbcejldifobnaaDoor

namespace Go.Proofs.YtmbcejldifobnaaDoor
open Go.RowKit
/-- Block g holds just these numbers. -/
def RowI (w : World) (g : Nat) (t : TypeId) (L : List Int) : Prop := w.heap[g]? = some (.cells (L.map (Value.int .i64)).toArray t (0, 0))
theorem RowI.cell {w : World} {g : Nat} {t : TypeId} {L : List Int} (h : RowI w g t L) {i : Nat} {x : Int} (hx : L[i]? = some x) : w.cell? ⟨g, i, none⟩ = some (.int .i64 x) := by
  rw [Go.Joins.cell_of_block h i]; simp [hx]
theorem RowI.frozen {w : World} {g : Nat} {t : TypeId} {L : List Int} (h : RowI w g t L) (i : Nat) : w.frozen? ⟨g, i, none⟩ = false := by
  have e : w.heap[g]? = some (.cells (L.map (Value.int .i64)).toArray t (0, 0)) := h
  simp [World.frozen?, e]
theorem RowI.lt {w : World} {g : Nat} {t : TypeId} {L : List Int} (h : RowI w g t L) : g < w.heap.size := (Array.getElem?_eq_some_iff.1 h).1
theorem RowI.set {w : World} {g : Nat} {t : TypeId} {L : List Int} (h : RowI w g t L) (i : Nat) (x : Int) : RowI (w.setCell ⟨g, i, none⟩ (.int .i64 x)) g t (L.set i x) := by
  have e : w.heap[g]? = some (.cells (L.map (Value.int .i64)).toArray t (0, 0)) := h
  show (w.setCell _ _).heap[g]? = _
  rw [List.map_set]
  simp [World.setCell, Array.getElem?_modify, e]
theorem RowI.up {w w' : World} {g : Nat} {t : TypeId} {L : List Int} (h : RowI w g t L) (hb : Below w.heap.size w w') : RowI w' g t L := (hb.block g h.lt).trans h
theorem RowI.other {W : World} {g k i : Nat} {t : TypeId} {L : List Int} (h : RowI W g t L) (u : Value) (hne : g ≠ k) : RowI (W.setCell ⟨k, i, none⟩ u) g t L := (setCell_heap hne).trans h
theorem size_setCell' (w : World) (a : Addr) (v : Value) : (w.setCell a v).heap.size = w.heap.size := by simp [World.setCell]
end Go.Proofs.YtmbcejldifobnaaDoor

namespace Go.Proofs.YtmbcejldifobnaaDoor
open Go.RowKit
theorem RowI.drew {w : World} {g : Nat} {t : TypeId} {L : List Int} (h : RowI w g t L) : RowI w.drew g t L := h
end Go.Proofs.YtmbcejldifobnaaDoor

namespace Go.Proofs.YtmbcejldifobnaaDoor
open Go.RowKit
theorem RowI.of_alloc (w : World) (t : TypeId) (L : List Int) : RowI (w.alloc (.cells (L.map (Value.int .i64)).toArray t)) w.heap.size t L := heap_alloc_new w _
theorem RowI.alloc {w : World} {g : Nat} {t : TypeId} {L : List Int} (h : RowI w g t L) (o : Obj) : RowI (w.alloc o) g t L := h.up (belA w o)
end Go.Proofs.YtmbcejldifobnaaDoor

namespace Go.Proofs.YtmbcejldifobnaaDoor
open Go.RowKit
def FlW (v : V6) (s d m : Int) (b : Bool) (er : Int) : Prop :=
  (er = 0 ∧ FlIs v s d m ∧ b = (Fl v s d m == 0) ∧ -1000000000000 ≤ m ∧ m ≤ 1000000000000) ∨ (er = 7 ∧ m = 0 ∧ b = false ∧ (Fl v s d (-1000000000000) < 0 ∨ 0 ≤ Fl v s d 1000000000001))
end Go.Proofs.YtmbcejldifobnaaDoor

namespace Go.Proofs.YtmbcejldifobnaaDoor.Tp
open Go.RowKit
set_option maxHeartbeats 1000000 in
theorem cdiv_any (a b M : Int) (w : World) (h1 : -M ≤ a) (h2 : a ≤ M) (h3 : -M ≤ b) (h4 : b ≤ M) (hM : M ≤ 9223372036854775807) :
    Calls Tryd.prog 158 #[.int .i64 a, .int .i64 b] w fun e w' => e = .returned (.int .i64 ((Nat.gcd a.natAbs b.natAbs : Nat) : Int)) ∧ Drawn w w' := by
  obtain ⟨G, hG⟩ : ∃ G, G = Nat.gcd a.natAbs b.natAbs := ⟨_, rfl⟩
  rw [← hG]
  have HG := Lib.hid hG.symm
  clear hG
  go_enter Tryd.func158, Tryd.ntmps158
  go_wp2
  go_loopw [0, 1] (fun va vb wr => GcRel w G M va vb wr) (fun _ vb _ => mAbs vb)
  case atStart => exact ⟨a, b, rfl, rfl, h1, h2, h3, h4, HG.out, Drawn.refl w⟩
  case round =>
    obtain ⟨x, y, rfl, rfl, x1, x2, y1, y2, hg, hdr⟩ := hrel
    have HH := Lib.hid hg
    have HDR := Lib.hid hdr
    clear hg hdr
    by_cases hy : y = 0
    · subst hy
      have hxG : (G : Int) = max x (-x) := by
        have h := HH.out
        rw [Int.natAbs_zero, Nat.gcd_zero_right] at h
        omega
      have HX := Lib.hid hxG
      clear hxG
      go_wp2
      all_goals
        go_ret
        exact ⟨ret_int (by have := HX.out; omega), HDR.out⟩
    · have q1 : (y == 0) = false := beq_false_of_ne hy
      have q2 : (y != 0) = true := by simp [hy]
      have hst := gcd_step x y
      rw [HH.out] at hst
      have hlt : (x.tmod y).natAbs < y.natAbs := by rw [Int.natAbs_tmod]; exact Nat.mod_lt _ (by omega)
      have HST := Lib.hid hst
      have HLT := Lib.hid hlt
      clear hst hlt
      go_wp2
      go_quiet (fail)
      go_wp2
      first
        | exact ⟨⟨y, _, rfl, rfl, y1, y2, by have := HLT.out; omega, by have := HLT.out; omega, HST.out, HDR.out.trans ⟨_, rfl⟩⟩, HLT.out⟩
        | (go_roundw
           case rel => exact ⟨y, _, rfl, rfl, y1, y2, by have := HLT.out; omega, by have := HLT.out; omega, HST.out, HDR.out.trans ⟨_, rfl⟩⟩
           case measure => exact HLT.out)
end Go.Proofs.YtmbcejldifobnaaDoor.Tp

namespace Go.Proofs.YtmbcejldifobnaaDoor
/-- Numbers within the bounds of ratios. -/
def V6.bd (v : V6) (M : Int) : Prop := (-M ≤ v.a ∧ v.a ≤ M) ∧ (-M ≤ v.b ∧ v.b ≤ M) ∧ (-M ≤ v.c ∧ v.c ≤ M) ∧ (-M ≤ v.d ∧ v.d ≤ M) ∧ (-M ≤ v.e ∧ v.e ≤ M) ∧ (-M ≤ v.f ∧ v.f ≤ M)
end Go.Proofs.YtmbcejldifobnaaDoor

namespace Go.Proofs.YtmbcejldifobnaaDoor
def octV (x : Int) : V6 := ⟨x, 0, 0, 0, 0, 0⟩
theorem V6.add_neg_two (u v : V6) (x y : Int) : (u.two x).add (v.two y) = (u.add v).two (x + y) := by
  unfold V6.two V6.add; apply V6.eq <;> simp only; grind
theorem V6.scl_one (u : V6) : V6.scl 1 u = u := by unfold V6.scl; apply V6.eq <;> simp
/-- Between so many octaves. -/
def Bt (D : Int) (v : V6) (a b : Int) : Prop := 0 ≤ Sg (v.two (-(a * D))) ∧ 0 ≤ Sg ((V6.scl (-1) v).two (b * D))
theorem Bt.add {D : Int} {u v : V6} {a b c d : Int} (h : Bt D u a b) (h' : Bt D v c d) : Bt D (u.add v) (a + c) (b + d) := by
  constructor
  · have := Sg_add_ge h.1 h'.1
    rw [V6.add_neg_two] at this
    rw [show -((a + c) * D) = -(a * D) + -(c * D) by grind]
    exact this
  · have := Sg_add_ge h.2 h'.2
    rw [V6.add_neg_two] at this
    rw [show V6.scl (-1) (u.add v) = (V6.scl (-1) u).add (V6.scl (-1) v) by unfold V6.scl V6.add; apply V6.eq <;> simp only <;> grind, show (b + d) * D = b * D + d * D by grind]
    exact this
theorem FlIs.bt {D : Int} {v : V6} {k : Int} (h : FlIs v 1 D k) : Bt D v k (k + 1) := by
  have e : ∀ m, Fl v 1 D m = Sg (v.two (-(m * D))) := fun m => by unfold Fl; rw [V6.scl_one]
  constructor
  · have := h.1; rw [e] at this; exact this
  · have h2 := h.2
    rw [e] at h2
    have e2 : (V6.scl (-1) v).two ((k + 1) * D) = V6.scl (-1) (v.two (-((k + 1) * D))) := by unfold V6.two V6.scl; apply V6.eq <;> simp only; grind
    rw [e2, Sg_neg]
    omega
theorem V6.bd.mono {v : V6} {M N : Int} (h : v.bd M) (hl : M ≤ N) : v.bd N := by
  unfold V6.bd at *; omega
theorem V6.bd.add {u v : V6} {M N : Int} (h : u.bd M) (h' : v.bd N) : (u.add v).bd (M + N) := by
  unfold V6.bd V6.add at *; simp only; omega
theorem V6.bd.two {v : V6} {M x N : Int} (h : v.bd M) (h1 : -N ≤ x) (h2 : x ≤ N) : (v.two x).bd (M + N) := by
  unfold V6.bd V6.two at *; simp only; omega
def PS (F : Nat → V6) : Nat → V6
  | 0 => octV 0
  | n + 1 => (PS F n).add (F n)
theorem V6.add_comm (u v : V6) : u.add v = v.add u := by unfold V6.add; apply V6.eq <;> simp only <;> grind
theorem V6.add_zero (u : V6) : u.add (octV 0) = u := by unfold V6.add octV; apply V6.eq <;> simp
/-- What is left of seven octaves. -/
def LS (D : Int) (F : Nat → V6) (wf : Nat) : Nat → V6
  | 0 => octV (7 * D)
  | n + 1 => if n = wf then LS D F wf n else (LS D F wf n).add (V6.scl (-1) (F n))
/-- The sizes of the fifths. -/
def FF (D : Int) (F : Nat → V6) (wf : Nat) (i : Nat) : V6 := if i = wf then LS D F wf 12 else F i
structure Circ (D : Int) (F : Nat → V6) (wf : Nat) : Prop where
  d1 : 1 ≤ D
  d2 : D ≤ 120
  w : wf < 12
  bd : ∀ i, i < 12 → (F i).bd 4680
  bt : ∀ i, i < 12 → Bt D (F i) 0 1
/-- A note: the sum of fifths, less octaves. -/
def NoteIs (D : Int) (F : Nat → V6) (wf i : Nat) (r : Rt) : Prop := ∃ k, FlIs (PS (FF D F wf) i) 1 D k ∧ r = lowR ((PS (FF D F wf) i).two (-(k * D))) D
end Go.Proofs.YtmbcejldifobnaaDoor

namespace Go.Proofs.YtmbcejldifobnaaDoor.Tp
open Go.RowKit
structure Tm where
  nm : ByteArray
  sy : Bool
  wo : Int
  ps : List (Int × Int)
def fl2 (ps : List (Int × Int)) : List Value := ps.flatMap fun p => [.int .i64 p.1, .int .i64 p.2]
def tmV (T : Tm) : List Value := .string T.nm :: .bool T.sy :: .int .i64 T.wo :: fl2 T.ps
theorem fl2_len (ps : List (Int × Int)) : (fl2 ps).length = 2 * ps.length := by
  induction ps with
  | nil => rfl
  | cons p r ih => show ((fl2 r).length + 2 : Nat) = 2 * (r.length + 1); omega
theorem fl2_cons (p : Int × Int) (r : List (Int × Int)) : fl2 (p :: r) = .int .i64 p.1 :: .int .i64 p.2 :: fl2 r := rfl
theorem fl2_at {ps : List (Int × Int)} {i : Nat} {p : Int × Int} (h : ps[i]? = some p) : (fl2 ps)[2 * i]? = some (.int .i64 p.1) ∧ (fl2 ps)[2 * i + 1]? = some (.int .i64 p.2) := by
  induction ps generalizing i with
  | nil => cases h
  | cons q r ih =>
    rw [fl2_cons]
    match i, h with
    | 0, h => cases h; exact ⟨rfl, rfl⟩
    | i + 1, h =>
      have := ih (i := i) h
      exact this
theorem extract_two {L : List Value} {o : Nat} {a b : Value} (h1 : L[o]? = some a) (h2 : L[o + 1]? = some b) : L.toArray.extract o (o + 2) = #[a, b] := by
  apply Array.ext_getElem?
  intro j
  rw [Array.getElem?_extract]
  have hl : o + 1 < L.length := (List.getElem?_eq_some_iff.1 h2).1
  match j with
  | 0 => simp [h1]; omega
  | 1 => simp [h2]; omega
  | j + 2 => simp; omega
theorem belB (w : World) (o : Obj) : Below w.heap.size w (w.alloc o) := (Below.refl _ _).alloc (Nat.le_refl _) _
theorem idx2 {ps : List (Int × Int)} {i : Nat} {p : Int × Int} (hl : ps.length = 12) (h : ps[i]? = some p) (w : World) :
    (Instr.index 36 (.agg (fl2 ps).toArray) (.int .i64 (i : Int))).run Tryd.prog w = .ok (.agg #[.int .i64 p.1, .int .i64 p.2]) w := by
  have hi : i < 12 := by have := (List.getElem?_eq_some_iff.1 h).1; omega
  obtain ⟨h1, h2⟩ := fl2_at h
  have hx := extract_two h1 h2
  have hI : (0 : Int) ≤ (i : Int) ∧ (i : Int) < 12 := by omega
  simp [Instr.index, run_underlying Tryd.underlying36, asIntOf, go_sem, part]
  rw [if_pos hi, Nat.mul_comm i 2]
  have h3 : List.take 2 (List.drop (2 * i) (fl2 ps)) = [.int .i64 p.1, .int .i64 p.2] := by
    have := congrArg Array.toList hx
    simpa using this
  rw [h3]

/-- Block g holds these values. -/
def RowV (w : World) (g : Nat) (t : TypeId) (L : List Value) : Prop := w.heap[g]? = some (.cells L.toArray t (0, 0))
theorem RowV.cell {w : World} {g : Nat} {t : TypeId} {L : List Value} (h : RowV w g t L) {i : Nat} {x : Value} (hx : L[i]? = some x) : w.cell? ⟨g, i, none⟩ = some x := by
  rw [Go.Joins.cell_of_block h i]; simp [hx]
theorem RowV.range {w : World} {g : Nat} {t : TypeId} {L : List Value} (h : RowV w g t L) {o : Nat} {K : List Value} (hk : ∀ j v, K[j]? = some v → L[o + j]? = some v) : w.rangeAt g o K := fun j v hv => h.cell (hk j v hv)
theorem RowV.of_alloc (w : World) (t : TypeId) (L : List Value) : RowV (w.alloc (.cells L.toArray t)) w.heap.size t L := heap_alloc_new w _
theorem RowV.lt {w : World} {g : Nat} {t : TypeId} {L : List Value} (h : RowV w g t L) : g < w.heap.size := (Array.getElem?_eq_some_iff.1 h).1
theorem RowV.up {w w' : World} {g : Nat} {t : TypeId} {L : List Value} (h : RowV w g t L) (hb : Below w.heap.size w w') : RowV w' g t L := (hb.block g h.lt).trans h
theorem RowV.alloc {w : World} {g : Nat} {t : TypeId} {L : List Value} (h : RowV w g t L) (o : Obj) : RowV (w.alloc o) g t L := h.up (belB w o)
theorem tmV_len (T : Tm) : (tmV T).length = 3 + 2 * T.ps.length := by show (fl2 T.ps).length + 3 = _; rw [fl2_len]; omega
theorem sz2 {ps : List (Int × Int)} (hl : ps.length = 12) : (Tryd.prog.info? 36).map (·.size) = some (fl2 ps).length := by rw [fl2_len, hl]; kernel_rfl
theorem szT {T : Tm} (hl : T.ps.length = 12) : (Tryd.prog.info? 38).map (·.size) = some (tmV T).length := by rw [tmV_len, hl]; kernel_rfl
def pOk (p : Int × Int) : Bool := decide (1 ≤ p.2) && decide (p.2 ≤ 24) && decide (-2 * p.2 ≤ p.1) && decide (p.1 ≤ 2 * p.2)
theorem pOk_iff {p : Int × Int} : pOk p = true ↔ (1 ≤ p.2 ∧ p.2 ≤ 24) ∧ -2 * p.2 ≤ p.1 ∧ p.1 ≤ 2 * p.2 := by
  unfold pOk; simp only [Bool.and_eq_true, decide_eq_true_eq]; constructor
  · rintro ⟨⟨⟨a, b⟩, c⟩, d⟩; exact ⟨⟨a, b⟩, c, d⟩
  · rintro ⟨⟨a, b⟩, c, d⟩; exact ⟨⟨⟨a, b⟩, c⟩, d⟩
def fitsT (T : Tm) : Bool := T.ps.all pOk && (decide (0 ≤ T.wo) && decide (T.wo < 12))
def FtRel (w : World) (L : List Value) (P : List (Int × Int)) (iv : Value) (wr : World) : Prop :=
  ∃ i : Nat, i ≤ 12 ∧ iv = .int .i64 (i : Int) ∧ (∀ p ∈ P.take i, pOk p = true) ∧ RowV wr w.heap.size 38 L ∧ Below w.heap.size w wr
theorem all_take {α : Type} {f : α → Bool} {l : List α} {i : Nat} {x : α} (h : ∀ p ∈ l.take i, f p = true) (hx : l[i]? = some x) (hf : f x = true) : ∀ p ∈ l.take (i + 1), f p = true := by
  intro p hp
  rw [List.take_add_one, hx, List.mem_append] at hp
  rcases hp with hp | hp
  · exact h p hp
  · simp at hp; subst hp; exact hf
theorem all_no {α : Type} {f : α → Bool} {l : List α} {i : Nat} {x : α} (hx : l[i]? = some x) (hf : f x = false) : l.all f = false := by
  rw [Bool.eq_false_iff]
  intro h
  have := List.all_eq_true.1 h x (List.mem_of_getElem? hx)
  rw [hf] at this
  cases this
set_option maxRecDepth 100000 in
set_option maxHeartbeats 1000000 in
theorem fits_any (T : Tm) (w : World) (hl : T.ps.length = 12) : Calls Tryd.prog 109 #[.agg (tmV T).toArray] w fun e w' => e = .returned (.bool (fitsT T)) ∧ Below w.heap.size w w' := by
  have hr := RowV.of_alloc w 38 (tmV T)
  have hc : (w.alloc (.cells (tmV T).toArray 38)).rangeAt w.heap.size 3 (fl2 T.ps) := hr.range fun j v hv => by rw [Nat.add_comm]; exact hv
  have hwo : ∀ W, RowV W w.heap.size 38 (tmV T) → W.cell? ⟨w.heap.size, 2, none⟩ = some (.int .i64 T.wo) := fun W h => h.cell (i := 2) rfl
  have hf : fitsT T = (T.ps.all pOk && (decide (0 ≤ T.wo) && decide (T.wo < 12))) := rfl
  have HF := Lib.hid hf
  have HWO := Lib.hid hwo
  have HR := Lib.hid hr
  have HC := Lib.hid hc
  have HI := Lib.hid (sz2 hl)
  have HX := Lib.hid (fun i p (h : T.ps[i]? = some p) W => idx2 hl h W)
  clear hr hc hwo hf
  generalize fitsT T = FT at *
  generalize tmV T = L at *
  generalize T.ps = P at *
  generalize T.wo = wo at *
  have HL := Lib.hid hl
  clear hl
  go_enter Tryd.func109, Tryd.ntmps109
  go_wp2_with (refine wpList_load_mid rfl 36 _ rfl w.heap.size 3 rfl (fl2 P) _ HC.out Tryd.underlying36 rfl HI.out ?_)
  go_loopw [7] (fun iv wr => FtRel w L P iv wr) (fun iv _ => 12 - (intOf iv).toNat)
  case atStart => exact ⟨0, Nat.zero_le _, rfl, (by simp), HR.out, belB w _⟩
  case round =>
    clear HR HC
    obtain ⟨i, hi, rfl, hok, hrow, hb⟩ := hrel
    have HOK := Lib.hid hok
    have HROW := Lib.hid hrow
    have HB := Lib.hid hb
    clear hok hrow hb
    by_cases hil : i < 12
    · obtain ⟨⟨n, d⟩, hn⟩ : ∃ p, P[i]? = some p := ⟨P[i]'(by have := HL.out; omega), List.getElem?_eq_getElem _⟩
      have hix := fun W => HX.out i (n, d) hn W
      have hilI : (i : Int) < 12 := by omega
      have HN := Lib.hid hn
      clear hn
      simp only at hix
      have hca : d < 1 ∨ (¬ d < 1 ∧ 24 < d) ∨ ((1 ≤ d ∧ d ≤ 24) ∧ n < -2 * d) ∨ ((1 ≤ d ∧ d ≤ 24) ∧ ¬ n < -2 * d ∧ 2 * d < n) ∨ ((1 ≤ d ∧ d ≤ 24) ∧ ¬ n < -2 * d ∧ ¬ 2 * d < n) := by omega
      rcases hca with h1 | ⟨h1, h2⟩ | ⟨⟨h1, h2⟩, h3⟩ | ⟨⟨h1, h2⟩, h3, h4⟩ | ⟨⟨h1, h2⟩, h3, h4⟩
      case' inr.inr.inr.inr =>
        have hp : pOk (n, d) = true := pOk_iff.2 ⟨⟨h1, h2⟩, by simp only; omega, by simp only; omega⟩
        have HP := Lib.hid hp
        clear hp
        go_wp2
        refine ⟨⟨i + 1, by omega, by go_num, all_take HOK.out HN.out HP.out, HROW.out.alloc _, ?_⟩, by simp [intOf]; omega⟩
        exact HB.out.alloc HB.out.size _
      all_goals
        have hp : pOk (n, d) = false := by rw [Bool.eq_false_iff]; intro h; have := pOk_iff.1 h; simp only at this; omega
        have HP := Lib.hid hp
        clear hp
        go_wp2
        go_ret
        refine ⟨?_, HB.out.alloc HB.out.size _⟩
        rw [HF.out, all_no HN.out HP.out]
        rfl
    · obtain rfl : i = 12 := by omega
      have hwo := HWO.out _ HROW.out
      have ha : P.all pOk = true := List.all_eq_true.2 fun y hy => HOK.out y (by rw [List.take_of_length_le (by have := HL.out; omega)]; exact hy)
      have HA := Lib.hid ha
      clear ha
      by_cases h1 : wo < 0
      · go_wp2
        go_ret
        refine ⟨?_, HB.out⟩
        rw [HF.out, HA.out, decide_eq_false (by omega)]
        rfl
      · have h1' : 0 ≤ wo := by omega
        by_cases h2 : wo < 12
        · go_wp2
          go_ret
          refine ⟨?_, HB.out⟩
          rw [HF.out, HA.out, decide_eq_true h1', decide_eq_true h2]
          rfl
        · go_wp2
          go_ret
          refine ⟨?_, HB.out⟩
          rw [HF.out, HA.out, decide_eq_true h1', decide_eq_false (by omega)]
          rfl
end Go.Proofs.YtmbcejldifobnaaDoor.Tp

namespace Go.Proofs.YtmbcejldifobnaaDoor.Tp
open Go.RowKit
def nameB' (s : ByteArray) : Bool := Wn.nameB s.data.toList
theorem name_any' (s : ByteArray) (w : World) (hs : s.size ≤ maxLen) : Calls Tryd.prog 159 #[.string s] w fun e w' => e = .returned (.bool (nameB' s)) ∧ w = w' := Wn.name_any s w hs
def GtRel (w : World) (L : List Value) (P : List (Int × Int)) (iv : Value) (wr : World) : Prop :=
  ∃ i : Nat, i ≤ 12 ∧ iv = .int .i64 (i : Int) ∧ (∀ p ∈ P.take i, (Nat.gcd p.1.natAbs p.2.natAbs == 1) = true) ∧ RowV wr w.heap.size 38 L ∧ Below w.heap.size w wr
def gOk (p : Int × Int) : Bool := Nat.gcd p.1.natAbs p.2.natAbs == 1
def woP (T : Tm) : Int × Int := T.ps.getD T.wo.toNat (0, 0)
def zB (p : Int × Int) : Bool := p.1 == 0 && p.2 == 1
def formedT (T : Tm) : Bool := T.ps.all gOk && (nameB' T.nm && zB (woP T))
set_option maxRecDepth 100000 in
set_option maxHeartbeats 1000000 in
theorem formed_any (T : Tm) (w : World) (hl : T.ps.length = 12) (hs : T.nm.size ≤ maxLen) (hf : fitsT T = true) : Calls Tryd.prog 110 #[.agg (tmV T).toArray] w fun e w' => e = .returned (.bool (formedT T)) ∧ Below w.heap.size w w' := by
  have hr := RowV.of_alloc w 38 (tmV T)
  have hc : (w.alloc (.cells (tmV T).toArray 38)).rangeAt w.heap.size 3 (fl2 T.ps) := hr.range fun j v hv => by rw [Nat.add_comm]; exact hv
  obtain ⟨hps, hw1, hw2⟩ : T.ps.all pOk = true ∧ 0 ≤ T.wo ∧ T.wo < 12 := by
    unfold fitsT at hf
    simpa only [Bool.and_eq_true, decide_eq_true_eq] using hf
  obtain ⟨wn, hwn⟩ : ∃ wn : Nat, T.wo = (wn : Int) := ⟨T.wo.toNat, by omega⟩
  obtain ⟨⟨wx, wy⟩, hwp⟩ : ∃ p, T.ps[wn]? = some p := ⟨T.ps[wn]'(by omega), List.getElem?_eq_getElem _⟩
  have hwP : woP T = (wx, wy) := by unfold woP; rw [hwn, Int.toNat_natCast, List.getD_eq_getElem?_getD, hwp]; rfl
  have hfd : formedT T = (T.ps.all gOk && (nameB' T.nm && zB (woP T))) := rfl
  rw [hwP] at hfd
  have hwo : ∀ W, RowV W w.heap.size 38 (tmV T) → W.cell? ⟨w.heap.size, 0, none⟩ = some (.string T.nm) ∧ W.cell? ⟨w.heap.size, 2, none⟩ = some (.int .i64 (wn : Int)) ∧ W.cell? ⟨w.heap.size, 3 + wn * 2, none⟩ = some (.int .i64 wx) ∧ W.cell? ⟨w.heap.size, 3 + wn * 2 + 1, none⟩ = some (.int .i64 wy) := fun W h => by
    obtain ⟨f1, f2⟩ := fl2_at hwp
    refine ⟨h.cell (i := 0) rfl, h.cell (i := 2) (by rw [← hwn]; rfl), h.cell ?_, h.cell ?_⟩
    · rw [Nat.add_comm, Nat.mul_comm]; exact f1
    · rw [show 3 + wn * 2 + 1 = 2 * wn + 1 + 3 by omega]; exact f2
  have HF := Lib.hid hfd
  have HWO := Lib.hid hwo
  have HR := Lib.hid hr
  have HC := Lib.hid hc
  have HI := Lib.hid (sz2 hl)
  have HX := Lib.hid (fun i p (h : T.ps[i]? = some p) W => idx2 hl h W)
  have HPS := Lib.hid hps
  have HNM := Lib.hid (fun W => name_any' T.nm W hs)
  have HL := Lib.hid hl
  have hw3 : wn < 12 := by omega
  clear hr hc hwo hfd hwP hps hl hwn hw1 hw2 hwp hf
  generalize formedT T = FT at *
  generalize nameB' T.nm = NB at *
  generalize tmV T = L at *
  generalize T.ps = P at *
  generalize T.nm = nm at *
  go_enter Tryd.func110, Tryd.ntmps110
  go_wp2_with (refine wpList_load_mid rfl 36 _ rfl w.heap.size 3 rfl (fl2 P) _ HC.out Tryd.underlying36 rfl HI.out ?_)
  go_loopw [7] (fun iv wr => GtRel w L P iv wr) (fun iv _ => 12 - (intOf iv).toNat)
  case atStart => exact ⟨0, Nat.zero_le _, rfl, (by simp), HR.out, belB w _⟩
  case round =>
    clear HR HC
    obtain ⟨i, hi, rfl, hok, hrow, hb⟩ := hrel
    have HOK := Lib.hid hok
    have HROW := Lib.hid hrow
    have HB := Lib.hid hb
    clear hok hrow hb
    by_cases hil : i < 12
    · obtain ⟨⟨n, d⟩, hn⟩ : ∃ p, P[i]? = some p := ⟨P[i]'(by have := HL.out; omega), List.getElem?_eq_getElem _⟩
      have hix := fun W => HX.out i (n, d) hn W
      have hilI : (i : Int) < 12 := by omega
      have hp := pOk_iff.1 (List.all_eq_true.1 HPS.out (n, d) (List.mem_of_getElem? hn))
      have HN := Lib.hid hn
      clear hn
      simp only at hix hp
      obtain ⟨⟨h1, h2⟩, h3, h4⟩ := hp
      obtain ⟨g, hg⟩ : ∃ g, g = Nat.gcd n.natAbs d.natAbs := ⟨_, rfl⟩
      have hcd := fun W => cdiv_any n d 100 W (by omega) (by omega) (by omega) (by omega) (by omega)
      rw [← hg] at hcd
      have HCD := Lib.hid hcd
      have HG := Lib.hid hg
      clear hcd hg
      go_wp2_with fail
      refine (HCD.out _).mono ?_
      rintro e w2 ⟨he, ⟨nd, rfl⟩⟩
      subst he
      by_cases hg1 : g = 1
      · have hp : gOk (n, d) = true := by unfold gOk; simp only; rw [← HG.out, hg1]; rfl
        have HP := Lib.hid hp
        clear hp
        subst hg1
        go_wp2
        refine ⟨⟨i + 1, by omega, by go_num, all_take HOK.out HN.out HP.out, ?_, ?_⟩, by simp [intOf]; omega⟩
        · exact (HROW.out.alloc _).up (below_drewN _ _)
        · exact (HB.out.alloc HB.out.size _).trans ((below_drewN _ _).mono (by simp; have := HB.out.size; omega))
      · have hp : gOk (n, d) = false := by unfold gOk; simp only; rw [← HG.out]; simp [hg1]
        have HP := Lib.hid hp
        have q1 : ((g : Int) != 1) = true := by simp; omega
        clear hp hg1
        go_wp2
        go_ret
        refine ⟨?_, ?_⟩
        · rw [HF.out, all_no HN.out HP.out]
          rfl
        · exact (HB.out.alloc HB.out.size _).trans ((below_drewN _ _).mono (by simp; have := HB.out.size; omega))
    · obtain rfl : i = 12 := by omega
      obtain ⟨c0, c2, c3, c4⟩ := HWO.out _ HROW.out
      have ha : P.all gOk = true := List.all_eq_true.2 fun y hy => HOK.out y (by rw [List.take_of_length_le (by have := HL.out; omega)]; exact hy)
      have HA := Lib.hid ha
      clear ha
      go_wp2_with fail
      refine (HNM.out _).mono ?_
      rintro e w2 ⟨he, hw⟩
      subst he
      subst hw
      cases NB
      case' false =>
        go_wp2
        go_ret
        refine ⟨?_, HB.out⟩
        rw [HF.out, HA.out]
        rfl
      case' true =>
        by_cases hx : wx = 0
        · subst hx
          by_cases hy : wy = 1
          · subst hy
            go_wp2
            go_ret
            refine ⟨?_, HB.out⟩
            rw [HF.out, HA.out]
            rfl
          · have q1 : (wy == 1) = false := beq_false_of_ne hy
            have HQ := Lib.hid q1
            clear hy
            go_wp2
            go_ret
            refine ⟨?_, HB.out⟩
            rw [HF.out, HA.out]
            unfold zB
            simp only [HQ.out]
            rfl
        · have q1 : (wx == 0) = false := beq_false_of_ne hx
          have HQ := Lib.hid q1
          clear hx
          go_wp2
          go_ret
          refine ⟨?_, HB.out⟩
          rw [HF.out, HA.out]
          unfold zB
          simp only [HQ.out]
          rfl
def lcL (ps : List (Int × Int)) : Nat := ps.foldl (fun m p => Nat.lcm m p.2.natAbs) 1
def agreeT (T : Tm) : Bool := decide (lcL T.ps ≤ 120)
theorem lc_mono : ∀ (ps : List (Int × Int)) (m : Nat), m ∣ ps.foldl (fun m p => Nat.lcm m p.2.natAbs) m
  | [], m => Nat.dvd_refl m
  | p :: r, m => Nat.dvd_trans (Nat.dvd_lcm_left m p.2.natAbs) (lc_mono r (Nat.lcm m p.2.natAbs))
theorem lc_pos : ∀ (ps : List (Int × Int)) (m : Nat), 0 < m → (∀ p ∈ ps, 1 ≤ p.2) → 0 < ps.foldl (fun m p => Nat.lcm m p.2.natAbs) m
  | [], _, hm, _ => hm
  | p :: r, m, hm, h => lc_pos r _ (Nat.lcm_pos hm (by have := h p (by simp); omega)) fun x hx => h x (by simp [hx])
theorem lc_take (ps : List (Int × Int)) (i : Nat) : lcL (ps.take i) ∣ lcL ps := by
  have h := lc_mono (ps.drop i) (lcL (ps.take i))
  have e : (ps.drop i).foldl (fun m p => Nat.lcm m p.2.natAbs) (lcL (ps.take i)) = lcL ps := by
    unfold lcL; rw [← List.foldl_append, List.take_append_drop]
  rw [e] at h
  exact h
theorem lc_step {ps : List (Int × Int)} {i : Nat} {p : Int × Int} (h : ps[i]? = some p) : lcL (ps.take (i + 1)) = Nat.lcm (lcL (ps.take i)) p.2.natAbs := by
  unfold lcL; rw [List.take_add_one, h, List.foldl_append]; rfl
end Go.Proofs.YtmbcejldifobnaaDoor.Tp

namespace Go.Proofs.YtmbcejldifobnaaDoor.Tp
open Go.RowKit
def AgRel (w : World) (P : List (Int × Int)) (mv iv : Value) (wr : World) : Prop :=
  ∃ i m : Nat, i ≤ 12 ∧ iv = .int .i64 (i : Int) ∧ mv = .int .i64 (m : Int) ∧ lcL (P.take i) = m ∧ 1 ≤ m ∧ m ≤ 120 ∧ Below w.heap.size w wr
theorem lcm_quo {m d g : Nat} (hg : g = Nat.gcd m d) : m * (d / g) = Nat.lcm m d := by
  subst hg
  rw [Nat.lcm, Nat.mul_div_assoc _ (Nat.gcd_dvd_right m d)]
set_option maxRecDepth 100000 in
set_option maxHeartbeats 1000000 in
theorem agree_any (P : List (Int × Int)) (w : World) (hl : P.length = 12) (hp : P.all pOk = true) : Calls Tryd.prog 111 #[.agg (fl2 P).toArray] w fun e w' => e = .returned (.bool (decide (lcL P ≤ 120))) ∧ Below w.heap.size w w' := by
  have hr := RowV.of_alloc w 36 (fl2 P)
  have hc : (w.alloc (.cells (fl2 P).toArray 36)).rangeAt w.heap.size 0 (fl2 P) := hr.range fun j v hv => by rw [Nat.zero_add]; exact hv
  have HC := Lib.hid hc
  have HI := Lib.hid (sz2 hl)
  have HX := Lib.hid (fun i p (h : P[i]? = some p) W => idx2 hl h W)
  have HPS := Lib.hid hp
  have HL := Lib.hid hl
  clear hr hc hp hl
  go_enter Tryd.func111, Tryd.ntmps111
  go_wp2_with (refine wpList_load_mid rfl 36 _ rfl w.heap.size 0 rfl (fl2 P) _ HC.out Tryd.underlying36 rfl HI.out ?_)
  go_loopw [3, 7] (fun mv iv wr => AgRel w P mv iv wr) (fun _ iv _ => 12 - (intOf iv).toNat)
  case atStart => exact ⟨0, 1, Nat.zero_le _, rfl, rfl, rfl, Nat.le_refl 1, by omega, belB w _⟩
  case round =>
    clear HC
    obtain ⟨i, m, hi, rfl, rfl, hlc, hm1, hm2, hb⟩ := hrel
    have HLC := Lib.hid hlc
    have HB := Lib.hid hb
    clear hlc hb
    by_cases hil : i < 12
    · obtain ⟨⟨n, d0⟩, hn⟩ : ∃ p, P[i]? = some p := ⟨P[i]'(by have := HL.out; omega), List.getElem?_eq_getElem _⟩
      have hp := pOk_iff.1 (List.all_eq_true.1 HPS.out (n, d0) (List.mem_of_getElem? hn))
      simp only at hp
      obtain ⟨d, rfl⟩ : ∃ d : Nat, d0 = (d : Int) := ⟨d0.toNat, by omega⟩
      have hix := fun W => HX.out i (n, (d : Int)) hn W
      have hilI : (i : Int) < 12 := by omega
      have hst := lc_step hn
      have HN := Lib.hid hn
      clear hn
      simp only at hix hst
      rw [HLC.out, Int.natAbs_natCast] at hst
      obtain ⟨⟨h1, h2⟩, h3, h4⟩ := hp
      obtain ⟨g, hg⟩ : ∃ g, g = Nat.gcd m d := ⟨_, rfl⟩
      have hgp : 0 < g := by rw [hg]; exact Nat.gcd_pos_of_pos_left _ (by omega)
      have hlq := lcm_quo hg
      obtain ⟨k, hk⟩ : ∃ k, k = d / g := ⟨_, rfl⟩
      rw [← hk, ← hst] at hlq
      obtain ⟨m2, hm⟩ : ∃ m2, m2 = lcL (P.take (i + 1)) := ⟨_, rfl⟩
      rw [← hm] at hlq
      have hkd : k ≤ d := by rw [hk]; exact Nat.div_le_self _ _
      have hmk : m * k ≤ 120 * 24 := Nat.mul_le_mul hm2 (by omega)
      have hm21 : 1 ≤ m2 := by
        rw [hm, hst]; exact Nat.lcm_pos hm1 (by omega)
      have hcd := fun W => cdiv_any (m : Int) (d : Int) 120 W (by omega) (by omega) (by omega) (by omega) (by omega)
      rw [Int.natAbs_natCast, Int.natAbs_natCast, ← hg] at hcd
      have hq : (d : Int).tdiv (g : Int) = (k : Int) := by rw [hk]; rfl
      have hq2 : (d : Int) / (g : Int) = (k : Int) := by rw [hk]; exact (Int.natCast_ediv d g).symm
      have hmI : (m : Int) * (k : Int) = (m2 : Int) := by rw [← hlq]; exact (Int.natCast_mul m k).symm
      have hm2b : (m2 : Int) ≤ 2880 := by rw [← hmI]; have := hmk; omega
      have hg0 : ¬ (g : Int) = 0 := by omega
      have HCD := Lib.hid hcd
      have HM := Lib.hid hm
      clear hcd hm hst hk hg hlq hmk
      go_wp2
      go_quiet ((go_at_call 158; exact Calls.quiet_of (HCD.out _)))
      by_cases hle : m2 ≤ 120
      · go_wp2
        refine ⟨⟨i + 1, m2, by omega, by go_num, rfl, HM.out.symm, by omega, hle, ?_⟩, by simp [intOf]; omega⟩
        exact (HB.out.alloc HB.out.size _).trans ((below_drewN _ _).mono (by simp; have := HB.out.size; omega))
      · go_wp2
        go_ret
        refine ⟨?_, (HB.out.alloc HB.out.size _).trans ((below_drewN _ _).mono (by simp; have := HB.out.size; omega))⟩
        have hno : ¬ lcL P ≤ 120 := by
          intro h
          have h1 := Nat.le_of_dvd (Nat.lt_of_lt_of_le Nat.zero_lt_one (lc_pos P 1 (by omega) fun p hp => (pOk_iff.1 (List.all_eq_true.1 HPS.out p hp)).1.1)) (lc_take P (i + 1))
          have h2 : P.foldl (fun m p => Nat.lcm m p.2.natAbs) 1 = lcL P := rfl
          have := HM.out
          omega
        rw [decide_eq_false hno]
        rfl
    · obtain rfl : i = 12 := by omega
      have hm : lcL P = m := by rw [← HLC.out, List.take_of_length_le (by have := HL.out; omega)]
      have HM := Lib.hid hm
      clear hm
      go_wp2
      go_ret
      refine ⟨?_, HB.out⟩
      rw [HM.out, decide_eq_true hm2]
      rfl
def chkT (T : Tm) : Int := if fitsT T = true then (if formedT T = true then (if agreeT T = true then 0 else 7) else 6) else 2
theorem RowV.all {w : World} {g : Nat} {t : TypeId} {L : List Value} (h : RowV w g t L) : w.rangeAt g 0 L := h.range fun j v hv => by rw [Nat.zero_add]; exact hv
theorem RowV.parts {w : World} {g : Nat} {t : TypeId} {T : Tm} (h : RowV w g t (tmV T)) : w.rangeAt g 3 (fl2 T.ps) := h.range fun j v hv => by rw [Nat.add_comm]; exact hv
set_option maxRecDepth 100000 in
set_option maxHeartbeats 1000000 in
theorem Check_any (T : Tm) (w : World) (hl : T.ps.length = 12) (hs : T.nm.size ≤ maxLen) : Calls Tryd.prog 58 #[.agg (tmV T).toArray] w fun e w' => e = .returned (.int .i64 (chkT T)) ∧ Below w.heap.size w w' := by
  have HR := Lib.hid (RowV.of_alloc w 38 (tmV T))
  have HI := Lib.hid (sz2 hl)
  have HI2 := Lib.hid (szT hl)
  have HP := Lib.hid (fun W (h : RowV W w.heap.size 38 (tmV T)) => h.parts)
  have HFT := Lib.hid (fun W => fits_any T W hl)
  have HFO := Lib.hid (fun W (h : fitsT T = true) => formed_any T W hl hs h)
  have HAG := Lib.hid (fun W (h : fitsT T = true) => agree_any T.ps W hl (by unfold fitsT at h; simp only [Bool.and_eq_true] at h; exact h.1))
  have hck : chkT T = if fitsT T = true then (if formedT T = true then (if decide (lcL T.ps ≤ 120) = true then 0 else 7) else 6) else 2 := rfl
  have HCK := Lib.hid hck
  clear hck hl hs
  generalize chkT T = CK at *
  generalize fitsT T = FT at *
  generalize formedT T = FO at *
  generalize decide (lcL T.ps ≤ 120) = AG at *
  generalize tmV T = L at *
  generalize T.ps = P at *
  go_enter Tryd.func58, Tryd.ntmps58
  go_wp2_with (refine wpList_load_mid rfl 38 _ rfl w.heap.size 0 rfl L _ HR.out.all Tryd.underlying38 rfl HI2.out ?_)
  refine (HFT.out _).mono ?_
  rintro e w2 ⟨he, hb⟩
  subst he
  have hr := HR.out.up hb
  have hb2 := (belB w (.cells L.toArray 38)).trans (hb.mono (by simp))
  have HR := Lib.hid hr
  have HB := Lib.hid hb2
  clear hr hb2 hb
  cases FT
  case' false =>
    go_wp2
    go_ret
    exact ⟨by rw [HCK.out]; rfl, HB.out⟩
  case' true =>
    have HFO2 := Lib.hid (fun W => HFO.out W rfl)
    have HAG2 := Lib.hid (fun W => HAG.out W rfl)
    clear HFO HAG
    go_wp2_with (refine wpList_load_mid rfl 38 _ rfl w.heap.size 0 rfl L _ HR.out.all Tryd.underlying38 rfl HI2.out ?_)
    refine (HFO2.out _).mono ?_
    rintro e w3 ⟨he, hb⟩
    subst he
    have hr := HR.out.up hb
    have hb2 := HB.out.trans (hb.mono HB.out.size)
    have HR := Lib.hid hr
    have HB := Lib.hid hb2
    clear hr hb2 hb
    cases FO
    case' false =>
      go_wp2
      go_ret
      exact ⟨by rw [HCK.out]; rfl, HB.out⟩
    case' true =>
      go_wp2_with (refine wpList_load_mid rfl 36 _ rfl w.heap.size 3 rfl (fl2 P) _ (HP.out _ HR.out) Tryd.underlying36 rfl HI.out ?_)
      refine (HAG2.out _).mono ?_
      rintro e w4 ⟨he, hb⟩
      subst he
      have hb2 := HB.out.trans (hb.mono HB.out.size)
      have HB := Lib.hid hb2
      clear hb2 hb
      cases AG
      all_goals
        go_wp2
        go_ret
        exact ⟨by rw [HCK.out]; rfl, HB.out⟩
end Go.Proofs.YtmbcejldifobnaaDoor.Tp

namespace Go.Proofs.YtmbcejldifobnaaDoor.Tp
open Go.RowKit
def CentIs (x : Rt) (m : Int) : Prop := x.Ok → ∃ b er, FlW x.v 1200000 x.d m b er
end Go.Proofs.YtmbcejldifobnaaDoor.Tp

namespace Go.Proofs.YtmbcejldifobnaaDoor.Tp
open Go.RowKit
theorem RowV.setCell {w : World} {g : Nat} {t : TypeId} {L : List Value} (h : RowV w g t L) (i : Nat) (x : Value) : RowV (w.setCell ⟨g, i, none⟩ x) g t (L.set i x) := by
  have e : w.heap[g]? = some (.cells L.toArray t (0, 0)) := h
  show (w.setCell _ _).heap[g]? = _
  simp [World.setCell, Array.getElem?_modify, e]
theorem RowV.setCells {g : Nat} {t : TypeId} : ∀ (vs : List Value) (o : Nat) (w : World) (L : List Value), RowV w g t L → o + vs.length ≤ L.length → RowV (w.setCells g o vs) g t (L.take o ++ vs ++ L.drop (o + vs.length))
  | [], o, w, L, h, _ => by simpa [World.setCells] using h
  | v :: r, o, w, L, h, hl => by
    rw [World.setCells]
    have hl' : o + (r.length + 1) ≤ L.length := hl
    have ih := RowV.setCells r (o + 1) (w.setCell ⟨g, o, none⟩ v) (L.set o v) (h.setCell o v) (by rw [List.length_set]; omega)
    have e : (L.set o v).take (o + 1) ++ r ++ (L.set o v).drop (o + 1 + r.length) = L.take o ++ v :: r ++ L.drop (o + (v :: r).length) := by
      have e1 : (L.set o v).take (o + 1) = L.take o ++ [v] := by
        rw [List.take_add_one, List.take_set_of_le (Nat.le_refl o), List.getElem?_set_self (by omega)]
        rfl
      have e2 : (L.set o v).drop (o + 1 + r.length) = L.drop (o + 1 + r.length) := List.drop_set_of_lt (by omega)
      rw [e1, e2]
      simp [show o + 1 + r.length = o + (r.length + 1) by omega]
    rw [e] at ih
    exact ih
theorem below_setCells {g : Nat} {B : Nat} {w0 : World} : ∀ (vs : List Value) (o : Nat) (w : World), Below B w0 w → B ≤ g → Below B w0 (w.setCells g o vs)
  | [], _, _, h, _ => h
  | v :: r, o, w, h, hg => by rw [World.setCells]; exact below_setCells r (o + 1) _ (h.setCell hg v) hg
theorem RowV.otherCells {g k : Nat} {t : TypeId} {L : List Value} (hne : g ≠ k) : ∀ (vs : List Value) (o : Nat) (w : World), RowV w g t L → RowV (w.setCells k o vs) g t L
  | [], _, _, h => h
  | v :: r, o, w, h => by rw [World.setCells]; exact RowV.otherCells hne r (o + 1) _ ((setCell_heap hne).trans h)
theorem RowV.there {w : World} {g : Nat} {t : TypeId} {L : List Value} (h : RowV w g t L) {o n : Nat} (hl : o + n ≤ L.length) : w.there g o n := fun j hj => by
  have e : w.heap[g]? = some (.cells L.toArray t (0, 0)) := h
  refine ⟨?_, ?_⟩
  · rw [Go.Joins.cell_of_block e]; simp; omega
  · unfold World.frozen?; simp [e]
end Go.Proofs.YtmbcejldifobnaaDoor.Tp

namespace Go.Proofs.YtmbcejldifobnaaDoor
open Go.ChangeShapes Go.WideShapes Go.ChangeAt Go.RowKit Go.Deep
theorem own : ownKnob Tryd.prog.godebug = none := by kernel_rfl
theorem laidOut : laidOutB Tryd.prog = true := by kernel_rfl
def VR (P : Program) (w : World) (n : String) (d : DataW Unit) : Prop :=
  ∃ g t cs fuel p, P.globalNamed n = some g ∧ (P.globals[g]?).map (·.type) = some t ∧ w.var? P n = some cs ∧ DataW.trod (fun _ => ()) P w 0 (fun _ => true) false fuel t cs.toList = some (d, p)
theorem vr_of_vars {P : Program} {w : World} : ∀ {l : List (String × DataW Unit)} {ps : List MemPlace}, DataW.LaidVars P w l ps → ∀ n d, (n, d) ∈ l → VR P w n d
  | [], _, _, _, _, hm => by cases hm
  | (n', d') :: r, ps, h, n, d, hm => by
    obtain ⟨g, t, cs, fuel, p, q, h1, h2, h3, h4, h5, _⟩ := h
    rcases List.mem_cons.1 hm with e | e
    · cases e
      exact ⟨g, t, cs, fuel, p, h1, h2, h3, h4⟩
    · exact vr_of_vars h5 n d e
theorem vr_of_laid {P : Program} {w : World} {l : List (String × DataW Unit)} (h : laidMet P l w) {n : String} {d : DataW Unit} (hm : (n, d) ∈ l) : VR P w n d :=
  let ⟨_, hv, _⟩ := h
  vr_of_vars hv n d hm
def layAt (h : Array Obj) (g : Nat) (cs : Array Value) : Array Obj :=
  h.modify g fun
    | .cells _ t frozen => .cells cs t frozen
    | o => o
/-- What lay below the heap's old size reads as it read, an argument at a time. -/
theorem args_stay {H : Type} {enc : TypeId × Value → H} {W W' : World} (hb : Below W.heap.size W W') (sp : Nat → Bool) :
    ∀ {ts : List TypeId} {vs : List Value} {ds : List (DataW H)} {ps : List MemPlace}, (∀ t ∈ ts, Tryd.prog.readableRec t = true ∧ t < Tryd.prog.types.size) →
    DataW.TrodAll enc Tryd.prog W 0 (fun _ => true) true ts vs ds ps → (∀ x ∈ ps, x.block < W.heap.size) → (∀ x ∈ ps, sp x.block = true) → DataW.TrodAll enc Tryd.prog W' 0 sp true ts vs ds ps
  | [], [], [], _, _, h, _, _ => h
  | [], [], _ :: _, _, _, h, _, _ => h
  | [], _ :: _, [], _, _, h, _, _ => h
  | [], _ :: _, _ :: _, _, _, h, _, _ => h
  | _ :: _, [], [], _, _, h, _, _ => h
  | _ :: _, [], _ :: _, _, _, h, _, _ => h
  | _ :: _, _ :: _, [], _, _, h, _, _ => h
  | t :: ts, v :: vs, d :: ds, ps, ht, h, hlt, hsp => by
    obtain ⟨p, p', h1, h2, rfl⟩ := h
    refine ⟨p, p', ?_, args_stay hb sp (fun t' ht' => ht t' (List.mem_cons_of_mem _ ht')) h2 (fun x hx => hlt x (List.mem_append_right _ hx)) (fun x hx => hsp x (List.mem_append_right _ hx)), rfl⟩
    exact WideElems.Trod_stays laidOut (ht t List.mem_cons_self).1 (ht t List.mem_cons_self).2 h1 (fun x hx => hb.same (hlt x (List.mem_append_left _ hx))) (fun x hx => hsp x (List.mem_append_left _ hx))
set_option maxRecDepth 100000 in
/-- A law's post from 'it returned true, and what lay below lies as it lay'. -/
theorem law_post {H : Type} {enc : TypeId × Value → H} {fn : Func} {s : ChangeSpec} {W W' : World} {args : Array Value} {ds : List (DataW H)} {before : List MemPlace}
    (hrt : fn.resultTypes = #[4]) (hread : ∀ t ∈ fn.params.toList, Tryd.prog.readableRec t = true ∧ t < Tryd.prog.types.size) (hsv : s.vars = [])
    (hfn : s.fn H ds = { results := [.lit (.bool true)], args := ds })
    (hW : DataW.Whole enc Tryd.prog fn.params.toList s.vars false W args.toList ds [] before) (hb : Below W.heap.size W W') :
    s.post enc Tryd.prog fn false true false false W args (.bool true) W' := by
  have hlt : ∀ p ∈ before, p.block < W.heap.size := fun p hp => hW.lt p hp
  obtain ⟨p, q, hA, hV, hpq, hz, hn⟩ := hW
  have hq : q = [] := by rw [hsv] at hV; exact (trodVars_none hV).2
  subst hq
  rw [List.append_nil] at hpq
  subst hpq
  have hres : ∀ (b : Nat) (sp : Nat → Bool) (hd : Bool), DataW.TrodAll enc Tryd.prog W' b sp hd fn.resultTypes.toList ((Value.bool true).resultList fn.resultTypes.size) (s.fn H (ds ++ [])).results [] := by
    intro b sp hd
    rw [List.append_nil, hfn, hrt]
    exact trodAll_mk1 (shut_bool Tryd.underlying4 true)
  have hargs : ∀ sp : Nat → Bool, (∀ x ∈ before, sp x.block = true) → DataW.TrodAll enc Tryd.prog W' 0 sp true fn.params.toList args.toList (s.fn H (ds ++ [])).args before := by
    intro sp hsp
    rw [List.append_nil, hfn]
    exact args_stay hb sp hread hA hlt hsp
  have hvars : ∀ sp : Nat → Bool, DataW.TrodVars enc Tryd.prog W' sp s.vars (s.fn H (ds ++ [])).vars [] := by
    intro sp
    rw [List.append_nil, hfn, hsv]
    exact rfl
  have hW0 : DataW.Whole enc Tryd.prog fn.params.toList s.vars false W args.toList ds [] before := ⟨before, [], hA, hV, by simp, hz, hn⟩
  refine ⟨ds, [], before, [], before, [], hW0, hres _ _ _, hargs _ (fun x hx => by simpa using hlt x hx), hvars _, World.keptBut_mono (fun x hx => ⟨hx, ?_⟩) (hb.frame (· ∈ before)), fun _ => ?_⟩
  · exact .inr (.inl hx)
  · refine ⟨ok_one hrt rfl (okWide_bool_mk Tryd.underlying4 _), _, _, ([] ++ before) ++ [], ⟨[] ++ before, [], trodAll_append (hargs _ (fun _ _ => rfl)) (hres _ _ _), hvars _, rfl, fun b off hp => ?_, fun ha => by cases ha⟩, fun x hx _ => by simpa using hx⟩
    have hin : MemPlace.cell b off ∈ before := by simpa using hp
    rw [hb.frozen (hlt _ hin)]
    exact hz b off hin
end Go.Proofs.YtmbcejldifobnaaDoor

namespace Go.Proofs
open Go.Shelf
def Tryd.lays134_ren : Go.Shelf.Ren := ⟨fun | 134 => 205 | 129 => 144 | n => n, fun | 53 => 180 | 3 => 3 | 4 => 4 | 46 => 204 | 5 => 5 | 9 => 9 | n => n, fun | n => n⟩
theorem Tryd.lays134 : Go.Proofs.Lays.n134 Tryd.prog Tryd.lays134_ren := {
  mixed := by kernel_rfl
  f129 := Tryd.func144.trans (congrArg some (by kernel_rfl))
  f134 := Tryd.func205.trans (congrArg some (by kernel_rfl))
  t3 := Tryd.underlying3
  a3 := Tryd.isAgg3
  z3 := Tryd.sizeOf3
  v3 := Tryd.zeroValue3
  t4 := Tryd.underlying4
  a4 := Tryd.isAgg4
  z4 := Tryd.sizeOf4
  v4 := Tryd.zeroValue4
  t5 := Tryd.underlying5
  a5 := Tryd.isAgg5
  z5 := Tryd.sizeOf5
  v5 := Tryd.zeroValue5
  t9 := Tryd.underlying9
  a9 := Tryd.isAgg9
  z9 := Tryd.sizeOf9
  v9 := Tryd.zeroValue9
  t46 := Tryd.underlying204
  a46 := Tryd.isAgg204
  z46 := Tryd.sizeOf204
  v46 := Tryd.zeroValue204
  t53 := Tryd.underlying180
  a53 := Tryd.isAgg180
  z53 := Tryd.sizeOf180
  v53 := Tryd.zeroValue180 }
/-- bits.LeadingZeros64: "LeadingZeros64 returns the number of leading zero bits in x; the result is 64 for x == 0.": IT RETURNS '64 - Lib.bitLen x'; the world is as it was. ITS CALLEE bits.Len64 IS MET BY ITS OWN CONTRACT OFF THE SHELF (lay that first): entered in place it sends the kernel out of memory. (LAID: no walk: one application.) -/
theorem Tryd.bits_LeadingZeros64 (x : Int) (w : World) (h0 : 0 ≤ x) (h1 : x ≤ 18446744073709551615) :
    Calls Tryd.prog 205 #[.int .u64 x] w fun e w' => e = .returned (.int .i64 (64 - (Lib.bitLen x.toNat : Int))) ∧ w' = w := Any.bits_LeadingZeros64 Tryd.lays134 x w h0 h1
end Go.Proofs
