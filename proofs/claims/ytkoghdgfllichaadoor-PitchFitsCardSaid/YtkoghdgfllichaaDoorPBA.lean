import Derived.Test.YtkoghdgfllichaaDoorPB1
import Derived.Test.YtkoghdgfllichaaDoorPAF
import Derived.Test.YtkoghdgfllichaaDoorTPC
import Derived.Test.YtkoghdgfllichaaDoorTAC
namespace Go.Proofs.YtkoghdgfllichaaDoor.Pc
open Go.RowKit Tp

/-! Roots: which numbers are at most them. -/
theorem posN_pw {l : List (Nat × Int)} {S k : Nat} {d : Int} (hl : posN l) (hS : 1 ≤ S) (hk : 1 ≤ k) : posN (l ++ [(S, d)] ++ [(k, -d)]) :=
  posN_append.2 ⟨posN_append.2 ⟨hl, posN_cons.2 ⟨hS, posN_nil⟩⟩, posN_cons.2 ⟨hk, posN_nil⟩⟩
theorem sgn_base {l : List (Nat × Int)} {a b e : Nat} (h : a < b) (he : 0 < e) (hl : posN l) (hb : 0 ≤ sgnP (l ++ [(b, -(e : Int))])) : 0 < sgnP (l ++ [(a, -(e : Int))]) := by
  rw [sgn_ge] at hb
  have key : dnP (l ++ [(a, -(e : Int))]) < upP (l ++ [(a, -(e : Int))]) := by
    rw [upP_append, dnP_append] at hb ⊢
    have e1 : ∀ n, upP [(n, -(e : Int))] = 1 := fun n => by
      show n ^ (-(e : Int)).toNat * 1 = 1
      rw [show (-(e : Int)).toNat = 0 by omega]; rfl
    have e2 : ∀ n, dnP [(n, -(e : Int))] = n ^ e := fun n => by
      show n ^ (- -(e : Int)).toNat * 1 = n ^ e
      rw [Int.neg_neg, Int.toNat_natCast, Nat.mul_one]
    rw [e1, e2] at hb ⊢
    have h1 : a ^ e < b ^ e := Nat.pow_lt_pow_left h (by omega)
    exact Nat.lt_of_lt_of_le (Nat.mul_lt_mul_of_pos_left h1 (dnP_pos' hl)) hb
  rw [sgn_up key]; omega
/-- The greater the number, the less the sign. -/
theorem PwF_anti {l : List (Nat × Int)} {d : Int} {S : Nat} (hl : posN l) (hd : 1 ≤ d) (hS : 1 ≤ S) {x y : Int} (hx : 0 ≤ x) (h : x < y) (hy : 0 ≤ PwF l d S y) : 0 < PwF l d S x := by
  unfold PwF at hy ⊢
  rw [if_neg (by omega)] at hy
  by_cases h0 : x = 0
  · rw [if_pos h0]; omega
  · rw [if_neg h0]
    obtain ⟨e, rfl⟩ := Int.eq_ofNat_of_zero_le (show 0 ≤ d by omega)
    exact sgn_base (a := x.toNat) (by omega) (by omega) (posN_append.2 ⟨hl, posN_cons.2 ⟨hS, posN_nil⟩⟩) hy
theorem ex_of (p n : Nat) (a : Int) : ex p [(n, a)] = ex p [(n, 1)] * a := by rw [ex_single, ex_single]; split <;> simp
theorem PwF_dbl {l l' : List (Nat × Int)} {d : Int} {S : Nat} (hl : posN l) (hl' : posN l') (hS : 1 ≤ S) (h : ∀ p, ex p l' = ex p l + ex p [(2, 1)] * d) {m : Int} (hm : 0 ≤ m) : PwF l' d S (2 * m) = PwF l d S m := by
  unfold PwF
  by_cases h0 : m = 0
  · rw [if_pos h0, if_pos (by omega)]
  · rw [if_neg h0, if_neg (by omega), show (2 * m).toNat = 2 * m.toNat by omega, sgn_split (posN_append.2 ⟨hl', posN_cons.2 ⟨hS, posN_nil⟩⟩) (by omega) (by omega)]
    refine sgn_ex ?_ (posN_pw hl hS (by omega)) (fun p => ?_)
    · exact posN_append.2 ⟨posN_append.2 ⟨hl', posN_cons.2 ⟨hS, posN_nil⟩⟩, posN_cons.2 ⟨by show 1 ≤ 2; omega, posN_cons.2 ⟨by show 1 ≤ m.toNat; omega, posN_nil⟩⟩⟩
    · rw [show ([(2, -d), (m.toNat, -d)] : List (Nat × Int)) = [(2, -d)] ++ [(m.toNat, -d)] from rfl]
      simp only [ex_append]
      rw [h p, ex_of p 2 (-d)]
      grind
/-- The span of twice the number. -/
theorem span_dbl {F G : Int → Int} {m n p q : Int} (hF : SpanIs F m n) (hG : SpanIs G p q) (aG : ∀ x y, 0 ≤ x → x < y → 0 ≤ G y → 0 < G x) (h : ∀ x, 0 ≤ x → G (2 * x) = F x) :
    m ≤ n ∧ p ≤ q ∧ 0 ≤ m ∧ n < 1099511627776 ∧ (p = 2 * m ∨ p = 2 * m + 1) ∧ (q = 2 * n ∨ q = 2 * n - 1) ∧ (m < n ∨ p = q) := by
  obtain ⟨f1, f2, f3, f4, f5⟩ := hF
  obtain ⟨g1, g2, g3, g4, g5⟩ := hG
  have h1 := h m f1
  have h2 := h (m + 1) (by omega)
  have a1 : 2 * m ≤ p := by
    rcases Int.lt_or_le p (2 * m) with hc | hc
    · rcases Int.lt_or_le (p + 1) (2 * m) with hc2 | hc2
      · have := aG (p + 1) (2 * m) (by omega) hc2 (by omega); omega
      · have e : p + 1 = 2 * m := by omega
        rw [e] at g4; omega
    · exact hc
  have a2 : p < 2 * (m + 1) := by
    rcases Int.lt_or_le p (2 * (m + 1)) with hc | hc
    · exact hc
    · rcases Int.lt_or_le (2 * (m + 1)) p with hc2 | hc2
      · have := aG (2 * (m + 1)) p (by omega) hc2 g3; omega
      · have e : p = 2 * (m + 1) := by omega
        rw [e] at g3; omega
  rcases f5 with ⟨e, rfl⟩ | ⟨e, rfl⟩
  · have e2 : p = 2 * n := by
      rcases Int.lt_or_le (2 * n) p with hc | hc
      · have := aG (2 * n) p (by omega) hc g3; omega
      · omega
    subst e2
    have : q = 2 * n := by
      rcases g5 with ⟨_, rfl⟩ | ⟨g, _⟩
      · rfl
      · omega
    omega
  · rcases g5 with ⟨g, rfl⟩ | ⟨g, rfl⟩
    · have : q ≠ 2 * m := fun e2 => by rw [e2] at g; omega
      omega
    · omega
end Go.Proofs.YtkoghdgfllichaaDoor.Pc
namespace Go.Proofs.YtkoghdgfllichaaDoor.Pc
open Go.RowKit Tp

/-! The lists of a frequency and a wavelength. -/
/-- What is known of the ratio of a note to the note 69. -/
structure ROk (R : Rt) : Prop where
  d1 : 1 ≤ R.d
  d2 : R.d ≤ 120
  bd : R.v.bd 100000
  er : R.err = 0
  up : Sg (R.v.two (-(7 * R.d))) ≤ 0
  lo : 0 ≤ Sg (R.v.two (7 * R.d))
theorem Sg_two_le {v : V6} {x : Int} (hx : 0 ≤ x) (h : Sg v ≤ 0) : Sg (v.two (-x)) ≤ 0 := by
  have h1 : 0 ≤ Sg ((V6.scl (-1) v).two x) := Sg_two hx (by rw [Sg_neg]; omega)
  have e : (V6.scl (-1) v).two x = V6.scl (-1) (v.two (-x)) := by unfold V6.two V6.scl; apply V6.eq <;> simp only; grind
  rw [e, Sg_neg] at h1
  omega
theorem low_d {v : V6} {D : Int} (h1 : 1 ≤ D) (h2 : D ≤ 120) : 1 ≤ (lowR v D).d ∧ (lowR v D).d ≤ 120 := by
  have h := (quo_low (v := v) (d := D) (by omega)).2
  exact ⟨by show 1 ≤ D.tdiv (v.gs D); omega, (tdiv_bd (G := v.gs D) (x := D) (M := 120) (by omega)).2⟩
theorem noR_ok {D : Int} {F : Nat → V6} {wf i j n : Nat} {x y : Rt} (h : Circ D F wf) (hi : i ≤ 12) (hj : j ≤ 12) (hy : NoteIs D F wf i y) (hx : NoteIs D F wf j x) (hn : n ≤ 143) :
    1 ≤ (bothW x y (-1)).1.d ∧ (bothW x y (-1)).1.d ≤ 120 ∧ -100000 ≤ (bothW x y (-1)).1.v.a ∧ (bothW x y (-1)).1.v.a ≤ 100000 ∧ ROk (noR x y n) := by
  obtain ⟨ki, hki, rfl⟩ := hy
  obtain ⟨kj, hkj, rfl⟩ := hx
  have hd1 := h.d1
  have hd2 := h.d2
  have bi := h.sum_k hi hki
  have bj := h.sum_k hj hkj
  have e : ((PS (FF D F wf) j).two (-(kj * D))).add (V6.scl (-1) ((PS (FF D F wf) i).two (-(ki * D)))) = (dfV D F wf i j).two (-((kj - ki) * D)) := by
    unfold dfV V6.two V6.add V6.scl; apply V6.eq <;> simp only; grind
  have hbd := df_two_bd (k := kj - ki) h hi hj (by omega) (by omega)
  have hbo := both_low (s := -1) hd1 (by omega) ((h.note_bd hj hj hkj).mono (by omega)) ((h.note_bd hi hi hki).mono (by omega)) (by rw [e]; exact hbd.mono (by omega))
  rw [e] at hbo
  have bt : Bt D (dfV D F wf i j) (kj - (ki + 1)) (kj + 1 - ki) := by
    have h1 := (hkj.bt).add (hki.bt).neg
    have e1 : kj + -(ki + 1) = kj - (ki + 1) := by omega
    have e2 : kj + 1 + -ki = kj + 1 - ki := by omega
    rw [e1, e2] at h1
    exact h1
  obtain ⟨o, ho⟩ : ∃ o : Int, o = (n : Int) / 12 - 5 := ⟨_, rfl⟩
  have ho1 : -5 ≤ o ∧ o ≤ 6 := by omega
  have hno : noR (lowR ((PS (FF D F wf) j).two (-(kj * D))) D) (lowR ((PS (FF D F wf) i).two (-(ki * D))) D) n = lowR ((dfV D F wf i j).two (-((kj - ki - o) * D))) D := by
    unfold noR
    rw [hbo, ← ho]
    simp only
    have h1 := low_fold (v := (dfV D F wf i j).two (-((kj - ki) * D))) (D := D) (by omega) (-o)
    rw [V6.two_two, Int.neg_mul, Int.neg_neg] at h1
    rw [h1]
    congr 2
    grind
  have hb3 := df_two_bd (k := kj - ki - o) h hi hj (by omega) (by omega)
  have ok3 := lowR_ok hd1 (by omega) (hb3.mono (show (70000 : Int) ≤ 100000 by omega))
  rw [hbo, hno]
  simp only
  have q1 := low_d (v := (dfV D F wf i j).two (-((kj - ki) * D))) hd1 hd2
  have q2 := low_d (v := (dfV D F wf i j).two (-((kj - ki - o) * D))) hd1 hd2
  have va : -100000 ≤ (lowR ((dfV D F wf i j).two (-((kj - ki) * D))) D).v.a ∧ (lowR ((dfV D F wf i j).two (-((kj - ki) * D))) D).v.a ≤ 100000 := tdiv_bd (hbd.mono (show (70000 : Int) ≤ 100000 by omega)).1
  refine ⟨q1.1, q1.2, va.1, va.2, q2.1, q2.2, ?_, Rt.ok_iff.2 ok3, ?_, ?_⟩
  · obtain ⟨b1, b2, b3, b4, b5, b6⟩ := hb3.mono (show (70000 : Int) ≤ 100000 by omega)
    exact ⟨tdiv_bd b1, tdiv_bd b2, tdiv_bd b3, tdiv_bd b4, tdiv_bd b5, tdiv_bd b6⟩
  · have h1 := low_Fl (v := (dfV D F wf i j).two (-((kj - ki - o) * D))) (D := D) (by omega) 1 7
    unfold Fl at h1
    rw [V6.scl_one, V6.scl_one, V6.two_two] at h1
    rw [h1]
    have h2 : Sg ((dfV D F wf i j).two (-((kj + 1 - ki) * D))) ≤ 0 := by
      have h3 := bt.2
      have e3 : (V6.scl (-1) (dfV D F wf i j)).two ((kj + 1 - ki) * D) = V6.scl (-1) ((dfV D F wf i j).two (-((kj + 1 - ki) * D))) := by unfold V6.two V6.scl; apply V6.eq <;> simp only; grind
      rw [e3, Sg_neg] at h3
      omega
    have h4 := Sg_two_le (x := (6 - o) * D) (Int.mul_nonneg (by omega) (by omega)) h2
    rw [V6.two_two] at h4
    rw [show -((kj - ki - o) * D) + -(7 * D) = -((kj + 1 - ki) * D) + -((6 - o) * D) by grind]
    exact h4
  · have h1 := low_Fl (v := (dfV D F wf i j).two (-((kj - ki - o) * D))) (D := D) (by omega) 1 (-7)
    unfold Fl at h1
    rw [V6.scl_one, V6.scl_one, V6.two_two, Int.neg_mul, Int.neg_mul, Int.neg_neg, Int.neg_neg] at h1
    rw [h1]
    have h4 := Sg_two (x := (o + 6) * D) (Int.mul_nonneg (by omega) (by omega)) bt.1
    rw [V6.two_two] at h4
    rw [show -((kj - ki - o) * D) + 7 * D = -((kj - (ki + 1)) * D) + (o + 6) * D by grind]
    exact h4
def fqL (a : Nat) (t0 t : Int) (R : Rt) : List (Nat × Int) := scL 2 (scL R.d [(a, 1)] ++ scL 1 (nz R.v.zl)) ++ scL (1 * R.d) (fastL t0 t)
def fqD (R : Rt) : Int := 1 * R.d * 2
def wvL (a : Nat) (t0 : Int) (R : Rt) : List (Nat × Int) := scL (1 * R.d) (fastL 0 t0) ++ scL 2 (negL (scL R.d [(a, 1)] ++ scL 1 (nz R.v.zl)))
def wvD (R : Rt) : Int := 2 * (1 * R.d)
theorem ex_neg (p : Nat) (l : List (Nat × Int)) : ex p (negL l) = -ex p l := ex_inv p l
theorem ex_fq (p a : Nat) (t0 t : Int) (R : Rt) : ex p (fqL a t0 t R) = 2 * (R.d * ex p [(a, 1)] + ex p R.v.zl) + R.d * ex p (fastL t0 t) := by
  unfold fqL
  rw [ex_append, ex_scL, ex_append, ex_scL, ex_scL, ex_nz, ex_scL]
  grind
theorem ex_wv (p a : Nat) (t0 : Int) (R : Rt) : ex p (wvL a t0 R) = R.d * ex p (fastL 0 t0) - 2 * (R.d * ex p [(a, 1)] + ex p R.v.zl) := by
  unfold wvL
  rw [ex_append, ex_scL, ex_scL, ex_neg, ex_append, ex_scL, ex_scL, ex_nz]
  grind
theorem fast_mem {a b : Int} {x : Nat × Int} (h1 : -20000 ≤ a) (h2 : a ≤ 50000) (h3 : -20000 ≤ b) (h4 : b ≤ 50000) (h : x ∈ fastL a b) : 1 ≤ x.1 ∧ x.1 ≤ 323150 ∧ x.2.natAbs ≤ 1 := by
  simp only [fastL, List.mem_cons, List.not_mem_nil, or_false] at h
  rcases h with rfl | rfl
  · simp only; omega
  · simp only; omega
theorem fq_one {a : Nat} {R : Rt} (hR : ROk R) (ha : 1 ≤ a) (ha2 : a ≤ 1000000) {x : Nat × Int} (h : x ∈ scL R.d [(a, 1)] ++ scL 1 (nz R.v.zl)) : 1 ≤ x.1 ∧ x.1 ≤ 1000000 ∧ x.2.natAbs ≤ 100000 := by
  have d1 := hR.d1
  have d2 := hR.d2
  rcases List.mem_append.1 h with h | h
  · obtain ⟨y, hy, rfl⟩ := List.mem_map.1 h
    rw [List.mem_singleton] at hy
    subst hy
    simp only
    omega
  · obtain ⟨y, hy, rfl⟩ := List.mem_map.1 h
    have h2 := zl_mem6 (List.mem_filter.1 hy).1
    have h3 : -100000 ≤ y.2 ∧ y.2 ≤ 100000 := by
      obtain ⟨b1, b2, b3, b4, b5, b6⟩ := hR.bd
      have h4 := h2.2
      unfold V6.l at h4
      simp only [List.mem_cons, List.not_mem_nil, or_false] at h4
      rcases h4 with h4 | h4 | h4 | h4 | h4 | h4 <;> (rw [h4]; assumption)
    simp only
    omega
theorem fq_len (a : Nat) (R : Rt) : (scL R.d [(a, 1)] ++ scL 1 (nz R.v.zl)).length ≤ 7 := by
  have h1 : (nz R.v.zl).length ≤ R.v.zl.length := List.length_filter_le _ _
  have h2 : R.v.zl.length = 6 := by unfold V6.zl V6.l ps6; simp
  simp only [List.length_append, scL_len, List.length_cons, List.length_nil]
  omega
theorem mul_abs {x d : Int} {K : Nat} (h : x.natAbs ≤ K) (h1 : 1 ≤ d) (h2 : d ≤ 120) : (x * d).natAbs ≤ K * 120 := by
  rw [Int.natAbs_mul]
  exact Nat.mul_le_mul h (by omega)
theorem fq_valid {a : Nat} {t0 t : Int} {R : Rt} (hR : ROk R) (ha : 1 ≤ a) (ha2 : a ≤ 1000000) (h1 : -20000 ≤ t0) (h2 : t0 ≤ 50000) (h3 : -20000 ≤ t) (h4 : t ≤ 50000) : validL (fqL a t0 t R) := by
  refine ⟨?_, fun x hx => ?_⟩
  · have := fq_len a R
    unfold fqL
    rw [List.length_append, scL_len, scL_len]
    simp only [fastL, List.length_cons, List.length_nil]
    omega
  · rcases List.mem_append.1 hx with hx | hx
    · obtain ⟨y, hy, rfl⟩ := List.mem_map.1 hx
      have := fq_one hR ha ha2 hy
      simp only
      omega
    · obtain ⟨y, hy, rfl⟩ := List.mem_map.1 hx
      have h5 := fast_mem h1 h2 h3 h4 hy
      have h6 := mul_abs h5.2.2 hR.d1 hR.d2
      rw [Int.one_mul]
      simp only
      omega
theorem wv_valid {a : Nat} {t0 : Int} {R : Rt} (hR : ROk R) (ha : 1 ≤ a) (ha2 : a ≤ 1000000) (h1 : -20000 ≤ t0) (h2 : t0 ≤ 50000) : validL (wvL a t0 R) := by
  refine ⟨?_, fun x hx => ?_⟩
  · have := fq_len a R
    unfold wvL
    rw [List.length_append, scL_len, scL_len, negL_len]
    simp only [fastL, List.length_cons, List.length_nil]
    omega
  · rcases List.mem_append.1 hx with hx | hx
    · obtain ⟨y, hy, rfl⟩ := List.mem_map.1 hx
      have h5 := fast_mem (by omega) (by omega) h1 h2 hy
      have h6 := mul_abs h5.2.2 hR.d1 hR.d2
      rw [Int.one_mul]
      simp only
      omega
    · obtain ⟨y, hy, rfl⟩ := List.mem_map.1 hx
      obtain ⟨z, hz, rfl⟩ := List.mem_map.1 hy
      have := fq_one hR ha ha2 hz
      simp only
      omega
theorem sgn_scl {l : List (Nat × Int)} {k : Int} (hk : 0 < k) : sgnP (scL k l) = sgnP l := by
  obtain ⟨n, rfl⟩ := Int.eq_ofNat_of_zero_le (Int.le_of_lt hk)
  exact sgn_pow (by omega) (scL_P n l).1 (scL_P n l).2
theorem fast_two {a b : Int} (h1 : -20000 ≤ a) (h2 : a ≤ 50000) (h3 : -20000 ≤ b) (h4 : b ≤ 50000) : sgnP (fastL a b ++ [(2, -1)]) < 0 := by
  obtain ⟨m, hm⟩ : ∃ m : Nat, 273150 + a = (m : Int) := ⟨(273150 + a).toNat, by omega⟩
  obtain ⟨n, hn⟩ : ∃ n : Nat, 273150 + b = (n : Int) := ⟨(273150 + b).toNat, by omega⟩
  unfold fastL
  rw [hn, hm]
  simp only [Int.toNat_natCast, List.cons_append, List.nil_append]
  rw [sgn_lt]
  show n ^ 1 * (m ^ 0 * (2 ^ 0 * 1)) < n ^ 0 * (m ^ 1 * (2 ^ 1 * 1))
  simp only [Nat.pow_one, Nat.pow_zero, Nat.one_mul, Nat.mul_one]
  omega
theorem fast_pos {a b : Int} (h1 : -20000 ≤ a) (h2 : a ≤ 50000) (h3 : -20000 ≤ b) (h4 : b ≤ 50000) : posN (fastL a b) := fun x hx => (fast_mem h1 h2 h3 h4 hx).1
theorem fq_pos {a : Nat} {t0 t : Int} {R : Rt} (hR : ROk R) (ha : 1 ≤ a) (ha2 : a ≤ 1000000) (h1 : -20000 ≤ t0) (h2 : t0 ≤ 50000) (h3 : -20000 ≤ t) (h4 : t ≤ 50000) : posN (fqL a t0 t R) := fun x hx => ((fq_valid hR ha ha2 h1 h2 h3 h4).2 x hx).1
theorem wv_pos {a : Nat} {t0 : Int} {R : Rt} (hR : ROk R) (ha : 1 ≤ a) (ha2 : a ≤ 1000000) (h1 : -20000 ≤ t0) (h2 : t0 ≤ 50000) : posN (wvL a t0 R) := fun x hx => ((wv_valid hR ha ha2 h1 h2).2 x hx).1
theorem lit_sgn (a S : Nat) (h : a ^ 2 * (2 ^ 15 * S ^ 2) < 1000000000001 ^ 2) : sgnP [(a, 2), (2, 15), (S, 2), (1000000000001, -2)] ≤ 0 := by
  have : sgnP [(a, 2), (2, 15), (S, 2), (1000000000001, -2)] < 0 := by
    rw [sgn_lt]
    show a ^ 2 * (2 ^ 15 * (S ^ 2 * (1000000000001 ^ 0 * 1))) < a ^ 0 * (2 ^ 0 * (S ^ 0 * (1000000000001 ^ 2 * 1)))
    simp only [Nat.pow_zero, Nat.one_mul, Nat.mul_one]
    exact h
  omega
theorem lit_sgn2 (a S : Nat) (h : 2 ^ 15 * S ^ 2 < a ^ 2 * 1000000000001 ^ 2) : sgnP [(a, -2), (2, 15), (S, 2), (1000000000001, -2)] ≤ 0 := by
  have : sgnP [(a, -2), (2, 15), (S, 2), (1000000000001, -2)] < 0 := by
    rw [sgn_lt]
    show a ^ 0 * (2 ^ 15 * (S ^ 2 * (1000000000001 ^ 0 * 1))) < a ^ 2 * (2 ^ 0 * (S ^ 0 * (1000000000001 ^ 2 * 1)))
    simp only [Nat.pow_zero, Nat.one_mul, Nat.mul_one]
    exact h
  omega
theorem ex_four (p a b c d : Nat) (x y z t : Int) : ex p [(a, x), (b, y), (c, z), (d, t)] = ex p [(a, 1)] * x + (ex p [(b, 1)] * y + (ex p [(c, 1)] * z + ex p [(d, 1)] * t)) := by
  rw [← ex_of, ← ex_of, ← ex_of, ← ex_of]
  simp only [ex, Int.add_zero]
theorem fq_no {a : Nat} {t0 t : Int} {R : Rt} (hR : ROk R) (ha : 1 ≤ a) (ha2 : a ≤ 1000000) (h1 : -20000 ≤ t0) (h2 : t0 ≤ 50000) (h3 : -20000 ≤ t) (h4 : t ≤ 50000) {S : Nat} (hS : 1 ≤ S) (hS2 : S ≤ 1000) : PwF (fqL a t0 t R) (fqD R) S 1000000000001 < 0 := by
  have d1 := hR.d1
  have hp := fq_pos hR ha ha2 h1 h2 h3 h4
  have hf := fast_pos h1 h2 h3 h4
  unfold PwF
  rw [if_neg (by omega)]
  have hb : sgnP (scL R.d [(a, 2), (2, 15), (S, 2), (1000000000001, -2)]) ≤ 0 := by
    rw [sgn_scl (by omega)]
    refine lit_sgn a S ?_
    have i1 : a ^ 2 ≤ 1000000 ^ 2 := Nat.pow_le_pow_left ha2 2
    have i2 : S ^ 2 ≤ 1000 ^ 2 := Nat.pow_le_pow_left hS2 2
    exact Nat.lt_of_le_of_lt (Nat.mul_le_mul i1 (Nat.mul_le_mul_left _ i2)) (by decide)
  have hc : sgnP (scL 2 (R.v.two (-(7 * R.d))).zl) ≤ 0 := by rw [sgn_scl (by omega)]; exact hR.up
  have hd : sgnP (scL R.d (fastL t0 t ++ [(2, -1)])) < 0 := by rw [sgn_scl (by omega)]; exact fast_two h1 h2 h3 h4
  have p1 : posN (scL R.d [(a, 2), (2, 15), (S, 2), (1000000000001, -2)]) := posN_scL _ (posN_cons.2 ⟨ha, posN_cons.2 ⟨by show 1 ≤ 2; omega, posN_cons.2 ⟨hS, posN_cons.2 ⟨by show 1 ≤ 1000000000001; omega, posN_nil⟩⟩⟩⟩)
  have p2 : posN (scL 2 (R.v.two (-(7 * R.d))).zl) := posN_scL _ (V6.pos _)
  have p3 : posN (scL R.d (fastL t0 t ++ [(2, -1)])) := posN_scL _ (posN_append.2 ⟨hf, posN_cons.2 ⟨by show 1 ≤ 2; omega, posN_nil⟩⟩)
  have hbc := sgn_le_mul (l := scL R.d [(a, 2), (2, 15), (S, 2), (1000000000001, -2)] ++ scL 2 (R.v.two (-(7 * R.d))).zl) (posN_append.2 ⟨p1, p2⟩) p1 p2 (fun p => ex_append p _ _) hb hc
  refine sgn_lt_mul (posN_pw hp hS (by omega)) p3 (posN_append.2 ⟨p1, p2⟩) (fun p => ?_) hd hbc
  rw [ex_append, ex_append, ex_fq, ex_append, ex_scL, ex_append, ex_scL, ex_four, ex_scL, ex_two, ex_of p S, ex_of p (Int.toNat 1000000000001), ex_of p 2 (-1)]
  rw [show (if 2 = p then -(7 * R.d) else 0) = ex p [(2, 1)] * -(7 * R.d) by rw [ex_single]; split <;> simp, show Int.toNat 1000000000001 = 1000000000001 from rfl]
  unfold fqD
  generalize ex p [(a, 1)] = A
  generalize ex p [(2, 1)] = B
  generalize ex p [(S, 1)] = C
  generalize ex p [(1000000000001, 1)] = E
  generalize ex p R.v.zl = G
  generalize ex p (fastL t0 t) = H
  grind
theorem wv_no {a : Nat} {t0 : Int} {R : Rt} (hR : ROk R) (ha : 100000 ≤ a) (ha2 : a ≤ 1000000) (h1 : -20000 ≤ t0) (h2 : t0 ≤ 50000) : PwF (wvL a t0 R) (wvD R) 331300000000 1000000000001 < 0 := by
  have d1 := hR.d1
  have hp := wv_pos (t0 := t0) hR (by omega) ha2 h1 h2
  have hf := fast_pos (a := 0) (b := t0) (by omega) (by omega) h1 h2
  unfold PwF
  rw [if_neg (by omega)]
  have hb : sgnP (scL R.d [(a, -2), (2, 15), (331300000000, 2), (1000000000001, -2)]) ≤ 0 := by
    rw [sgn_scl (by omega)]
    refine lit_sgn2 a 331300000000 ?_
    have i1 : 100000 ^ 2 ≤ a ^ 2 := Nat.pow_le_pow_left ha 2
    exact Nat.lt_of_lt_of_le (by decide) (Nat.mul_le_mul_right _ i1)
  have hc : sgnP (scL 2 (invL (R.v.two (7 * R.d)).zl)) ≤ 0 := by
    rw [sgn_scl (by omega)]
    have h3 := hR.lo
    unfold Sg at h3
    rw [sgn_ge] at h3
    have : ¬ (0 < sgnP (invL (R.v.two (7 * R.d)).zl)) := fun h4 => by
      have h5 : dnP (invL (R.v.two (7 * R.d)).zl) < upP (invL (R.v.two (7 * R.d)).zl) := by
        rcases Nat.lt_or_ge (dnP (invL (R.v.two (7 * R.d)).zl)) (upP (invL (R.v.two (7 * R.d)).zl)) with h6 | h6
        · exact h6
        · rcases Nat.lt_or_eq_of_le h6 with h7 | h7
          · rw [sgn_dn h7] at h4; omega
          · rw [sgn_zero h7] at h4; omega
      rw [(invL_P _).1, (invL_P _).2] at h5
      omega
    omega
  have hd : sgnP (scL R.d (fastL 0 t0 ++ [(2, -1)])) < 0 := by rw [sgn_scl (by omega)]; exact fast_two (by omega) (by omega) h1 h2
  have p1 : posN (scL R.d [(a, -2), (2, 15), (331300000000, 2), (1000000000001, -2)]) := posN_scL _ (posN_cons.2 ⟨by show 1 ≤ a; omega, posN_cons.2 ⟨by show 1 ≤ 2; omega, posN_cons.2 ⟨by show 1 ≤ 331300000000; omega, posN_cons.2 ⟨by show 1 ≤ 1000000000001; omega, posN_nil⟩⟩⟩⟩)
  have p2 : posN (scL 2 (invL (R.v.two (7 * R.d)).zl)) := posN_scL _ (fun x hx => by obtain ⟨y, hy, rfl⟩ := List.mem_map.1 hx; exact V6.pos _ y hy)
  have p3 : posN (scL R.d (fastL 0 t0 ++ [(2, -1)])) := posN_scL _ (posN_append.2 ⟨hf, posN_cons.2 ⟨by show 1 ≤ 2; omega, posN_nil⟩⟩)
  have hbc := sgn_le_mul (l := scL R.d [(a, -2), (2, 15), (331300000000, 2), (1000000000001, -2)] ++ scL 2 (invL (R.v.two (7 * R.d)).zl)) (posN_append.2 ⟨p1, p2⟩) p1 p2 (fun p => ex_append p _ _) hb hc
  refine sgn_lt_mul (posN_pw hp (by omega) (by omega)) p3 (posN_append.2 ⟨p1, p2⟩) (fun p => ?_) hd hbc
  rw [ex_append, ex_append, ex_wv, ex_append, ex_scL, ex_append, ex_scL, ex_four, ex_scL, ex_inv, ex_two, ex_of p 331300000000, ex_of p (Int.toNat 1000000000001), ex_of p 2 (-1)]
  rw [show (if 2 = p then 7 * R.d else 0) = ex p [(2, 1)] * (7 * R.d) by rw [ex_single]; split <;> simp, show Int.toNat 1000000000001 = 1000000000001 from rfl]
  unfold wvD
  generalize ex p [(a, 1)] = A
  generalize ex p [(2, 1)] = B
  generalize ex p [(331300000000, 1)] = C
  generalize ex p [(1000000000001, 1)] = E
  generalize ex p R.v.zl = G
  generalize ex p (fastL 0 t0) = H
  grind
/-- An octave higher. -/
theorem fq_oct {a : Nat} {t0 t : Int} {R R' : Rt} (hd : R'.d = R.d) (hv : R'.v = R.v.two R.d) (p : Nat) : ex p (fqL a t0 t R') = ex p (fqL a t0 t R) + ex p [(2, 1)] * fqD R := by
  rw [ex_fq, ex_fq, hd, hv, ex_two]
  rw [show (if 2 = p then R.d else 0) = ex p [(2, 1)] * R.d by rw [ex_single]; split <;> simp]
  unfold fqD
  grind
theorem wv_oct {a : Nat} {t0 : Int} {R R' : Rt} (hd : R'.d = R.d) (hv : R'.v = R.v.two R.d) (p : Nat) : ex p (wvL a t0 R) = ex p (wvL a t0 R') + ex p [(2, 1)] * wvD R' := by
  rw [ex_wv, ex_wv, hd, hv, ex_two]
  rw [show (if 2 = p then R.d else 0) = ex p [(2, 1)] * R.d by rw [ex_single]; split <;> simp]
  unfold wvD
  rw [hd]
  grind
theorem noR_oct (x y : Rt) (n : Nat) : (noR x y (n + 12)).d = (noR x y n).d ∧ (noR x y (n + 12)).v = (noR x y n).v.two (noR x y n).d := by
  refine ⟨rfl, ?_⟩
  show (bothW x y (-1)).1.v.two ((((n + 12 : Nat) : Int) / 12 - 5) * (bothW x y (-1)).1.d) = ((bothW x y (-1)).1.v.two (((n : Int) / 12 - 5) * (bothW x y (-1)).1.d)).two (bothW x y (-1)).1.d
  rw [V6.two_two, show (((n + 12 : Nat) : Int) / 12 - 5) = ((n : Int) / 12 - 5) + 1 by omega]
  congr 1
  grind
end Go.Proofs.YtkoghdgfllichaaDoor.Pc
namespace Go.Proofs.YtkoghdgfllichaaDoor.Pc
open Go.RowKit Tp

/-! Freq and Wave. -/
theorem notes_uniq {D : Int} {F : Nat → V6} {wn : Nat} {N N' : List Rt} (hD : 1 ≤ D) (h1 : NotesL D F wn 12 N) (h2 : NotesL D F wn 12 N') : N = N' := by
  refine List.ext_getElem? fun c => ?_
  by_cases hc : c < 12
  · obtain ⟨r, e1, k, hk, rfl⟩ := h1.at hc
    obtain ⟨s, e2, k', hk', rfl⟩ := h2.at hc
    have e := hk.unique (by omega) hk'
    subst e
    rw [e1, e2]
  · rw [List.getElem?_eq_none (by rw [h1.1]; omega), List.getElem?_eq_none (by rw [h2.1]; omega)]
/-- The ratio of a note to the note 69. -/
def nr (N : List Rt) (n : Nat) : Rt := noR (N[n % 12]?.getD Rt.zero) (N[9]?.getD Rt.zero) n
theorem nr_ok {D : Int} {F : Nat → V6} {wn n : Nat} {N : List Rt} (h : Circ D F wn) (hN : NotesL D F wn 12 N) (hn : n ≤ 143) :
    ∃ x y, N[n % 12]? = some x ∧ N[9]? = some y ∧ nr N n = noR x y n ∧ 1 ≤ (bothW x y (-1)).1.d ∧ (bothW x y (-1)).1.d ≤ 120 ∧ -100000 ≤ (bothW x y (-1)).1.v.a ∧ (bothW x y (-1)).1.v.a ≤ 100000 ∧ ROk (nr N n) := by
  obtain ⟨x, e1, hx⟩ := hN.at (c := n % 12) (by omega)
  obtain ⟨y, e2, hy⟩ := hN.at (c := 9) (by omega)
  have h2 := noR_ok (n := n) h (i := 7 * 9 % 12) (j := 7 * (n % 12) % 12) (by omega) (by omega) hy hx hn
  have e : nr N n = noR x y n := by unfold nr; rw [e1, e2]; rfl
  exact ⟨x, y, e1, e2, e, h2.1, h2.2.1, h2.2.2.1, h2.2.2.2.1, by rw [e]; exact h2.2.2.2.2⟩
theorem ROk.bdz {R : Rt} (h : ROk R) : Bd 1000000000 (nz R.v.zl) := fun x hx => by
  have h2 := zl_mem6 (List.mem_filter.1 hx).1
  obtain ⟨b1, b2, b3, b4, b5, b6⟩ := h.bd
  have h4 := h2.2
  unfold V6.l at h4
  simp only [List.mem_cons, List.not_mem_nil, or_false] at h4
  rcases h4 with h4 | h4 | h4 | h4 | h4 | h4 <;> (rw [h4]; omega)
theorem nz_len (v : V6) : (nz v.zl).length ≤ 6 := by
  have h1 : (nz v.zl).length ≤ v.zl.length := List.length_filter_le _ _
  have h2 : v.zl.length = 6 := by unfold V6.zl V6.l ps6; simp
  omega
theorem at_ok {D : Int} {F : Nat → V6} {wn : Nat} (a : Nat) (t0 t : Int) (g n : Nat) (N : List Rt) (W : World) (hp : PrL W) (h : Circ D F wn) (hN : NotesL D F wn 12 N) (hn : n ≤ 139) (hg : RowV W g 90 (fl7 N)) :
    Calls Tryd.prog 103 #[.agg (TunV (a : Int) t0 t g).toArray, .int .i64 (n : Int)] W fun e w' => (∃ V, e = .returned V ∧ RootV w' W.heap.size V (scL (nr N n).d [(a, 1)] ++ scL 1 (nz (nr N n).v.zl)) (1 * (nr N n).d)) ∧ Below W.heap.size W w' := by
  obtain ⟨x, y, e1, e2, e, d1, d2, a1, a2, hR⟩ := nr_ok (n := n) h hN (by omega)
  rw [e] at hR ⊢
  exact atT0_ok a t0 t g n (n % 12) N x y W hp hn rfl hg e1 e2 d1 (by omega) (by omega) (by omega) hR.er hR.bdz (by have := nz_len (noR x y n).v; omega)
theorem fq_bd {a : Nat} {R : Rt} (hR : ROk R) (ha : 1 ≤ a) (ha2 : a ≤ 1000000) : Bd 1000000000 (scL R.d [(a, 1)] ++ scL 1 (nz R.v.zl)) := fun x hx => by
  have := fq_one hR ha ha2 hx
  omega
theorem freq_ok {D : Int} {F : Nat → V6} {wn : Nat} (a : Nat) (t0 t : Int) (g n : Nat) (N : List Rt) (W : World) (hp : PrL W) (h : Circ D F wn) (hN : NotesL D F wn 12 N) (hn : n ≤ 139) (hg : RowV W g 90 (fl7 N)) (ha : 1 ≤ a) (ha2 : a ≤ 1000000)
    (h1 : -20000 ≤ t0) (h2 : t0 ≤ 50000) (h3 : -20000 ≤ t) (h4 : t ≤ 50000) :
    Calls Tryd.prog 60 #[.agg (TunV (a : Int) t0 t g).toArray, .int .i64 (n : Int)] W fun e w' => (∃ V, e = .returned V ∧ RootV w' W.heap.size V (fqL a t0 t (nr N n)) (fqD (nr N n))) ∧ Below W.heap.size W w' := by
  obtain ⟨x, y, e1, e2, e, d1, d2, a1, a2, hR⟩ := nr_ok (n := n) h hN (by omega)
  have r1 := hR.d1
  have r2 := hR.d2
  exact frequency_ok a t0 t g n _ _ W (fun W' hb => at_ok a t0 t g n N W' (hp.below hb) h hN hn (hg.up hb)) (by have := fq_len a (nr N n); omega) (fq_bd hR ha ha2) (by omega) (by omega) h1 h2 h3 h4
theorem wav_ok {D : Int} {F : Nat → V6} {wn : Nat} (a : Nat) (t0 t : Int) (g n : Nat) (N : List Rt) (W : World) (hp : PrL W) (h : Circ D F wn) (hN : NotesL D F wn 12 N) (hn : n ≤ 139) (hg : RowV W g 90 (fl7 N)) (ha : 1 ≤ a) (ha2 : a ≤ 1000000)
    (h1 : -20000 ≤ t0) (h2 : t0 ≤ 50000) :
    Calls Tryd.prog 61 #[.agg (TunV (a : Int) t0 t g).toArray, .int .i64 (n : Int)] W fun e w' => (∃ V, e = .returned V ∧ RootV w' W.heap.size V (wvL a t0 (nr N n)) (wvD (nr N n))) ∧ Below W.heap.size W w' := by
  obtain ⟨x, y, e1, e2, e, d1, d2, a1, a2, hR⟩ := nr_ok (n := n) h hN (by omega)
  have r1 := hR.d1
  have r2 := hR.d2
  exact wave_ok a t0 t g n _ _ W (fun W' hb => at_ok a t0 t g n N W' (hp.below hb) h hN hn (hg.up hb)) (by have := fq_len a (nr N n); omega) (fq_bd hR ha ha2) (by omega) (by omega) h1 h2
end Go.Proofs.YtkoghdgfllichaaDoor.Pc
namespace Go.Proofs.YtkoghdgfllichaaDoor.Pc
open Go.RowKit Tp

/-! Freq and Wave, of valid arguments. -/
set_option maxRecDepth 100000 in
set_option maxHeartbeats 2000000 in
theorem Freq_ok (a : Nat) (t0 t : Int) (T : Tm) (D : Int) (wn n : Nat) (w : World) (hp : PrL w) (hst : stdE (a : Int) t0 t = 0) (hl : T.ps.length = 12) (hs : T.nm.size ≤ maxLen) (hk : chkT T = 0) (hv : Vd T D wn) (hn : n ≤ 139) :
    Calls Tryd.prog 25 #[.agg #[.int .i64 (a : Int), .int .i64 t0, .int .i64 t], .agg (tmV T).toArray, .int .i64 (n : Int)] w fun e w' => ∃ N, NotesL D (fN T D) wn 12 N ∧ SoP w (PwF (fqL a t0 t (nr N n)) (fqD (nr N n)) 1) e w' := by
  have hst2 : stdB (a : Int) t0 t = true := by
    have h := hst
    unfold stdE at h
    split at h
    · assumption
    · cases h
  obtain ⟨hA, hT0, hT1⟩ := stdB_iff.1 hst2
  have hso : ∀ W, PrL W → Calls Tryd.prog 59 #[.agg #[.int .i64 (a : Int), .int .i64 t0, .int .i64 t], .agg (tmV T).toArray, .int .i64 (n : Int), .int .i64 1, .func (.func 60) #[] #[]] W fun e w' => ∃ N, NotesL D (fN T D) wn 12 N ∧ SoP W (PwF (fqL a t0 t (nr N n)) (fqD (nr N n)) 1) e w' := fun W hW =>
    spanOf_freq (a : Int) t0 t T D wn n 1 (fun N => fqL a t0 t (nr N n)) (fun N => fqD (nr N n)) W hW hst hl hs hk hv hn (by omega) (by omega)
      (fun N g W hN hg h => freq_ok a t0 t g n N W h hv.circ hN hn hg (by omega) (by omega) hT0.1 hT0.2 hT1.1 hT1.2)
      (fun N hN => by
        obtain ⟨x, y, e1, e2, e, d1, d2, a1, a2, hR⟩ := nr_ok (n := n) hv.circ hN (by omega)
        have r1 := hR.d1
        have r2 := hR.d2
        exact ⟨fq_valid hR (by omega) (by omega) hT0.1 hT0.2 hT1.1 hT1.2, by unfold fqD; omega, by unfold fqD; omega, fq_no hR (by omega) (by omega) hT0.1 hT0.2 hT1.1 hT1.2 (by omega) (by omega)⟩)
  have HSO := Lib.hid hso
  have HPR := Lib.hid hp
  have HI2 := Lib.hid (szT hl)
  have r1 : RowV ((w.alloc (.cells #[.int .i64 (a : Int), .int .i64 t0, .int .i64 t] 50)).alloc (.cells (tmV T).toArray 38)) (w.heap.size + 1) 38 (tmV T) := by
    have h := RowV.of_alloc (w.alloc (.cells #[.int .i64 (a : Int), .int .i64 t0, .int .i64 t] 50)) 38 (tmV T)
    rw [World.size_alloc] at h
    exact h
  have r2 : RowV (((w.alloc (.cells #[.int .i64 (a : Int), .int .i64 t0, .int .i64 t] 50)).alloc (.cells (tmV T).toArray 38)).alloc (.cells #[.int .i64 0, .int .i64 0] 55)) (w.heap.size + 1 + 1) 55 [.int .i64 0, .int .i64 0] := by
    have h := RowV.of_alloc ((w.alloc (.cells #[.int .i64 (a : Int), .int .i64 t0, .int .i64 t] 50)).alloc (.cells (tmV T).toArray 38)) 55 [.int .i64 0, .int .i64 0]
    rw [World.size_alloc, World.size_alloc] at h
    exact h
  have HB := Lib.hid (((belB w (.cells #[.int .i64 (a : Int), .int .i64 t0, .int .i64 t] 50)).alloc (by simp) (.cells (tmV T).toArray 38)).alloc (by simp; omega) (.cells #[.int .i64 0, .int .i64 0] 55))
  have HR2 := Lib.hid r2
  have HR1 := Lib.hid (r1.alloc (.cells #[.int .i64 0, .int .i64 0] 55))
  clear hso hp hst hst2 hA hT0 hT1 hl hs hk hv r1 r2
  go_enter Tryd.func25, Tryd.ntmps25
  go_wp2_with ((show wpList _ _ _ (⟨_, .load _ _, _, _, _, _⟩ :: _) _ _); refine wpList_load_mid rfl 38 _ rfl (w.heap.size + 1) 0 rfl (tmV T) _ HR1.out.all Tryd.underlying38 rfl HI2.out ?_)
  refine (HSO.out _ (HPR.out.below HB.out)).mono ?_
  rintro e u1 ⟨N, hN, m, k, hm, he, hb1⟩
  subst he
  have r5 := HR2.out.up hb1
  have c0 := RowV.c0 r5
  have c1 := RowV.c1 r5
  have z0 := RowV.z (i := 0) r5
  have z1 := RowV.z (i := 1) r5
  have B5 := Lib.hid (HB.out.trans (hb1.mono HB.out.size))
  have HM := Lib.hid hm
  have HN := Lib.hid hN
  clear r5 hb1 hm hN HB HR1 HR2 HSO
  go_wp2
  refine bodyPost_ret (v := .tuple #[.agg #[.int .i64 m, .int .i64 k], .int .i64 0]) (Tp.results_cell_tmp (a := 6) (b := 7) rfl rfl (load_iv ?_ ?_)) rfl ⟨N, HN.out, m, k, HM.out, rfl, (B5.out.setCell (by show w.heap.size ≤ w.heap.size + 1 + 1; omega) _).setCell (by show w.heap.size ≤ w.heap.size + 1 + 1; omega) _⟩
  · rw [World.cell?_setCell_other _ _ _ _ (by simp), World.cell?_setCell_same _ _ _ c0]
  · exact World.cell?_setCell_same _ _ _ ((World.cell?_setCell_other _ _ _ _ (by simp)).trans c1)
set_option maxRecDepth 100000 in
set_option maxHeartbeats 2000000 in
theorem Wave_ok (a : Nat) (t0 t : Int) (T : Tm) (D : Int) (wn n : Nat) (w : World) (hp : PrL w) (hst : stdE (a : Int) t0 t = 0) (hl : T.ps.length = 12) (hs : T.nm.size ≤ maxLen) (hk : chkT T = 0) (hv : Vd T D wn) (hn : n ≤ 139) :
    Calls Tryd.prog 26 #[.agg #[.int .i64 (a : Int), .int .i64 t0, .int .i64 t], .agg (tmV T).toArray, .int .i64 (n : Int)] w fun e w' => ∃ N, NotesL D (fN T D) wn 12 N ∧ SoP w (PwF (wvL a t0 (nr N n)) (wvD (nr N n)) 331300000000) e w' := by
  have hst2 : stdB (a : Int) t0 t = true := by
    have h := hst
    unfold stdE at h
    split at h
    · assumption
    · cases h
  obtain ⟨hA, hT0, hT1⟩ := stdB_iff.1 hst2
  have hso : ∀ W, PrL W → Calls Tryd.prog 59 #[.agg #[.int .i64 (a : Int), .int .i64 t0, .int .i64 t], .agg (tmV T).toArray, .int .i64 (n : Int), .int .i64 331300000000, .func (.func 61) #[] #[]] W fun e w' => ∃ N, NotesL D (fN T D) wn 12 N ∧ SoP W (PwF (wvL a t0 (nr N n)) (wvD (nr N n)) 331300000000) e w' := fun W hW =>
    spanOf_wave (a : Int) t0 t T D wn n 331300000000 (fun N => wvL a t0 (nr N n)) (fun N => wvD (nr N n)) W hW hst hl hs hk hv hn (by omega) (by omega)
      (fun N g W hN hg h => wav_ok a t0 t g n N W h hv.circ hN hn hg (by omega) (by omega) hT0.1 hT0.2)
      (fun N hN => by
        obtain ⟨x, y, e1, e2, e, d1, d2, a1, a2, hR⟩ := nr_ok (n := n) hv.circ hN (by omega)
        have r1 := hR.d1
        have r2 := hR.d2
        exact ⟨wv_valid hR (by omega) (by omega) hT0.1 hT0.2, by unfold wvD; omega, by unfold wvD; omega, wv_no hR (by omega) (by omega) hT0.1 hT0.2⟩)
  have HSO := Lib.hid hso
  have HPR := Lib.hid hp
  have HI2 := Lib.hid (szT hl)
  have r1 : RowV ((w.alloc (.cells #[.int .i64 (a : Int), .int .i64 t0, .int .i64 t] 50)).alloc (.cells (tmV T).toArray 38)) (w.heap.size + 1) 38 (tmV T) := by
    have h := RowV.of_alloc (w.alloc (.cells #[.int .i64 (a : Int), .int .i64 t0, .int .i64 t] 50)) 38 (tmV T)
    rw [World.size_alloc] at h
    exact h
  have r2 : RowV (((w.alloc (.cells #[.int .i64 (a : Int), .int .i64 t0, .int .i64 t] 50)).alloc (.cells (tmV T).toArray 38)).alloc (.cells #[.int .i64 0, .int .i64 0] 55)) (w.heap.size + 1 + 1) 55 [.int .i64 0, .int .i64 0] := by
    have h := RowV.of_alloc ((w.alloc (.cells #[.int .i64 (a : Int), .int .i64 t0, .int .i64 t] 50)).alloc (.cells (tmV T).toArray 38)) 55 [.int .i64 0, .int .i64 0]
    rw [World.size_alloc, World.size_alloc] at h
    exact h
  have HB := Lib.hid (((belB w (.cells #[.int .i64 (a : Int), .int .i64 t0, .int .i64 t] 50)).alloc (by simp) (.cells (tmV T).toArray 38)).alloc (by simp; omega) (.cells #[.int .i64 0, .int .i64 0] 55))
  have HR2 := Lib.hid r2
  have HR1 := Lib.hid (r1.alloc (.cells #[.int .i64 0, .int .i64 0] 55))
  clear hso hp hst hst2 hA hT0 hT1 hl hs hk hv r1 r2
  go_enter Tryd.func26, Tryd.ntmps26
  go_wp2_with ((show wpList _ _ _ (⟨_, .load _ _, _, _, _, _⟩ :: _) _ _); refine wpList_load_mid rfl 38 _ rfl (w.heap.size + 1) 0 rfl (tmV T) _ HR1.out.all Tryd.underlying38 rfl HI2.out ?_)
  refine (HSO.out _ (HPR.out.below HB.out)).mono ?_
  rintro e u1 ⟨N, hN, m, k, hm, he, hb1⟩
  subst he
  have r5 := HR2.out.up hb1
  have c0 := RowV.c0 r5
  have c1 := RowV.c1 r5
  have z0 := RowV.z (i := 0) r5
  have z1 := RowV.z (i := 1) r5
  have B5 := Lib.hid (HB.out.trans (hb1.mono HB.out.size))
  have HM := Lib.hid hm
  have HN := Lib.hid hN
  clear r5 hb1 hm hN HB HR1 HR2 HSO
  go_wp2
  refine bodyPost_ret (v := .tuple #[.agg #[.int .i64 m, .int .i64 k], .int .i64 0]) (Tp.results_cell_tmp (a := 6) (b := 7) rfl rfl (load_iv ?_ ?_)) rfl ⟨N, HN.out, m, k, HM.out, rfl, (B5.out.setCell (by show w.heap.size ≤ w.heap.size + 1 + 1; omega) _).setCell (by show w.heap.size ≤ w.heap.size + 1 + 1; omega) _⟩
  · rw [World.cell?_setCell_other _ _ _ _ (by simp), World.cell?_setCell_same _ _ _ c0]
  · exact World.cell?_setCell_same _ _ _ ((World.cell?_setCell_other _ _ _ _ (by simp)).trans c1)
end Go.Proofs.YtkoghdgfllichaaDoor.Pc
