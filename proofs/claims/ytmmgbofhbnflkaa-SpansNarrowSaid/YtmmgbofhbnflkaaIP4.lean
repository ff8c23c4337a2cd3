import Derived.Test.YtmmgbofhbnflkaaIP3
namespace Go.Proofs.Ytmmgbofhbnflkaa

/-! Pow, Root, Pi, Disc, Scale. -/
def sizesI (a : Int × Int) : Int × Int := if 0 ≤ a.1 then a else if a.2 ≤ 0 then negI a else (0, max (-a.1) a.2)
def powW (a : Int × Int) (k : Int) : (Int × Int) × Int :=
  if k < 0 ∨ 62 < k then ((0, 0), 2) else
  spanW ((if k % 2 = 0 then sizesI a else a).1 ^ k.toNat) ((if k % 2 = 0 then sizesI a else a).2 ^ k.toNat)
def piL : Int × Int := (3141592653589793238, 3141592653589793239)
def piW (a : Int × Int) : (Int × Int) × Int := prodsW a piL 1000000000000000000
def discW (a : Int × Int) : (Int × Int) × Int :=
  if a.1 < 0 then ((0, 0), 9) else if 3000000000 < a.2 then ((0, 0), 7) else prodsW (a.1 * a.1, a.2 * a.2) piL 4000000000000000000
def scaleW (a : Int × Int) (num den : Int) : (Int × Int) × Int :=
  if 1 ≤ den ∧ okB den = true ∧ okB num = true then prodsW a (num, num) den else ((0, 0), 2)

theorem Iv31.mul {a b : Int × Int} (ha : Iv31 a) (hb : Iv31 b) : (prodsW a b 1).2 = 0 := by rw [prods31 ha hb]

/-- Of narrower intervals the products lie within. -/
theorem narrow_minmax {a b s t : Int × Int} (h1 : a.1 ≤ s.1) (h2 : s.1 ≤ s.2) (h3 : s.2 ≤ a.2) (h4 : b.1 ≤ t.1) (h5 : t.1 ≤ t.2) (h6 : t.2 ≤ b.2) : minW a b ≤ minW s t ∧ minW s t ≤ maxW s t ∧ maxW s t ≤ maxW a b := by
  have p1 := prods_between (a := a) (b := b) (x := s.1) (y := t.1) (by omega) (by omega) (by omega) (by omega)
  have p2 := prods_between (a := a) (b := b) (x := s.1) (y := t.2) (by omega) (by omega) (by omega) (by omega)
  have p3 := prods_between (a := a) (b := b) (x := s.2) (y := t.1) (by omega) (by omega) (by omega) (by omega)
  have p4 := prods_between (a := a) (b := b) (x := s.2) (y := t.2) (by omega) (by omega) (by omega) (by omega)
  generalize minW a b = m at *
  generalize maxW a b = n at *
  unfold minW maxW
  omega
theorem narrow_mul {a b s t : Int × Int} (ha : Iv31 a) (hb : Iv31 b) (h1 : a.1 ≤ s.1) (h2 : s.1 ≤ s.2) (h3 : s.2 ≤ a.2) (h4 : b.1 ≤ t.1) (h5 : t.1 ≤ t.2) (h6 : t.2 ≤ b.2) :
    ∃ c d, prodsW a b 1 = (c, 0) ∧ prodsW s t 1 = (d, 0) ∧ inW d.1 c ∧ inW d.2 c := by
  have hs : Iv31 s := by unfold Iv31 at *; omega
  have ht : Iv31 t := by unfold Iv31 at *; omega
  have h := narrow_minmax h1 h2 h3 h4 h5 h6
  refine ⟨_, _, prods31 ha hb, prods31 hs ht, ?_, ?_⟩ <;> unfold inW <;> simp only <;> omega
theorem narrow_pi {a s : Int × Int} (ha : Iv31 a) (h1 : a.1 ≤ s.1) (h2 : s.1 ≤ s.2) (h3 : s.2 ≤ a.2) : ∃ c d, piW a = (c, 0) ∧ piW s = (d, 0) ∧ inW d.1 c ∧ inW d.2 c := by
  have h := narrow_minmax (b := piL) (t := piL) h1 h2 h3 (Int.le_refl _) (by decide) (Int.le_refl _)
  have hl : ∀ x, a.1 ≤ x → x ≤ a.2 → -7000000000000000000000000000 ≤ x * 3141592653589793238 ∧ x * 3141592653589793238 ≤ 7000000000000000000000000000 ∧ -7000000000000000000000000000 ≤ x * 3141592653589793239 ∧ x * 3141592653589793239 ≤ 7000000000000000000000000000 := by
    intro x hx1 hx2
    unfold Iv31 at ha
    omega
  have l1 := hl a.1 (by omega) (by omega)
  have l2 := hl a.2 (by omega) (by omega)
  have h4 : -7000000000000000000000000000 ≤ minW a piL ∧ maxW a piL ≤ 7000000000000000000000000000 := by
    unfold minW maxW piL
    simp only
    omega
  unfold piW prodsW
  generalize minW a piL = m at *
  generalize maxW a piL = n at *
  generalize minW s piL = m' at *
  generalize maxW s piL = n' at *
  have hb : ∀ z : Int, -7000000000000000000000000000 ≤ z → z ≤ 7000000000000000000000000000 → okB (z / 1000000000000000000) = true ∧ okB (upI z 1000000000000000000) = true := by
    intro z hz1 hz2
    unfold upI
    exact ⟨okB_of (by omega), okB_of (by omega)⟩
  rw [spanW_ok (hb m (by omega) (by omega)).1 (hb n (by omega) (by omega)).2, spanW_ok (hb m' (by omega) (by omega)).1 (hb n' (by omega) (by omega)).2]
  refine ⟨_, _, rfl, rfl, ?_, ?_⟩ <;> unfold inW upI <;> simp only <;> omega
theorem narrow_pow {a s : Int × Int} (ha : Iv31 a) (h1 : a.1 ≤ s.1) (h2 : s.1 ≤ s.2) (h3 : s.2 ≤ a.2) (k : Nat) (hk : k < 3) : ∃ c d, powW a k = (c, 0) ∧ powW s k = (d, 0) ∧ inW d.1 c ∧ inW d.2 c := by
  have ha' := ha
  unfold Iv31 at ha'
  have e : k = 0 ∨ k = 1 ∨ k = 2 := by omega
  rcases e with rfl | rfl | rfl
  · have : ∀ a : Int × Int, powW a (0 : Nat) = ((1, 1), 0) := fun a => by
      show spanW (_ ^ 0) (_ ^ 0) = _
      rw [Int.pow_zero, Int.pow_zero]; rfl
    rw [this, this]
    exact ⟨_, _, rfl, rfl, by unfold inW; decide, by unfold inW; decide⟩
  · have : ∀ a : Int × Int, powW a (1 : Nat) = spanW a.1 a.2 := fun a => by
      show spanW (a.1 ^ 1) (a.2 ^ 1) = _
      rw [Int.pow_succ, Int.pow_zero, Int.one_mul, Int.pow_succ, Int.pow_zero, Int.one_mul]
    rw [this, this, spanW_ok (okB_of (by omega)) (okB_of (by omega)), spanW_ok (okB_of (by omega)) (okB_of (by omega))]
    refine ⟨_, _, rfl, rfl, ?_, ?_⟩ <;> unfold inW <;> simp only <;> omega
  · have : ∀ a : Int × Int, powW a (2 : Nat) = spanW ((sizesI a).1 * (sizesI a).1) ((sizesI a).2 * (sizesI a).2) := fun a => by
      show spanW ((sizesI a).1 ^ 2) ((sizesI a).2 ^ 2) = _
      rw [Int.pow_succ, Int.pow_succ, Int.pow_zero, Int.one_mul, Int.pow_succ, Int.pow_succ, Int.pow_zero, Int.one_mul]
    have hz : ∀ a : Int × Int, a.1 ≤ a.2 → -2147483648 ≤ a.1 → a.2 ≤ 2147483648 → 0 ≤ (sizesI a).1 ∧ (sizesI a).1 ≤ (sizesI a).2 ∧ (sizesI a).2 ≤ 2147483648 := by
      intro a e1 e2 e3
      unfold sizesI negI
      split
      · omega
      · split <;> simp only <;> omega
    have za := hz a (by omega) (by omega) (by omega)
    have zs := hz s (by omega) (by omega) (by omega)
    have hn : (sizesI a).1 ≤ (sizesI s).1 ∧ (sizesI s).2 ≤ (sizesI a).2 := by
      unfold sizesI negI
      repeat' split
      all_goals first | omega | (simp only; omega)
    have sq : ∀ x : Int, 0 ≤ x → x ≤ 2147483648 → okB (x * x) = true := fun x e1 e2 => okB_of (mul31 ⟨by omega, e2⟩ ⟨by omega, e2⟩)
    rw [this, this, spanW_ok (sq _ (by omega) (by omega)) (sq _ (by omega) (by omega)), spanW_ok (sq _ (by omega) (by omega)) (sq _ (by omega) (by omega))]
    refine ⟨_, _, rfl, rfl, ?_, ?_⟩
    · unfold inW
      exact ⟨Int.mul_le_mul hn.1 hn.1 (by omega) (by omega), Int.mul_le_mul (by omega) (by omega) (by omega) (by omega)⟩
    · unfold inW
      exact ⟨Int.mul_le_mul (by omega) (by omega) (by omega) (by omega), Int.mul_le_mul hn.2 hn.2 (by omega) (by omega)⟩

theorem back_add {a b : Int × Int} (ha : Iv31 a) (hb : Iv31 b) : ∃ s r, spanW (a.1 + b.1) (a.2 + b.2) = (s, 0) ∧ s.1 ≤ s.2 ∧ okB s.1 = true ∧ okB s.2 = true ∧ spanW (s.1 - b.2) (s.2 - b.1) = (r, 0) ∧ inW a.1 r ∧ inW a.2 r := by
  unfold Iv31 at ha hb
  refine ⟨_, _, spanW_ok (okB_of (by omega)) (okB_of (by omega)), by simp only; omega, okB_of (by simp only; omega), okB_of (by simp only; omega), spanW_ok (okB_of (by simp only; omega)) (okB_of (by simp only; omega)), ?_, ?_⟩ <;> unfold inW <;> simp only <;> omega

theorem quot_fits {a b : Int × Int} (h1 : -2147483648 ≤ a.1) (h2 : a.1 ≤ a.2) (h3 : a.2 ≤ 2147483648) (h4 : 0 < b.1) (h5 : b.1 ≤ b.2) : Iv31 (quotW a b) := by
  have e1 := ediv_le' (a := a.1) h4
  have e2 := ediv_le' (a := a.1) (y := b.2) (by omega)
  have e3 := ediv_le' (a := -a.2) h4
  have e4 := ediv_le' (a := -a.2) (y := b.2) (by omega)
  have e5 := down_le_up (a := a.1) h4
  have e6 := up_le h4 h2
  unfold Iv31 quotW upI at *
  simp only
  omega
theorem quot_back {a b : Int × Int} (h2 : a.1 ≤ a.2) (h4 : 0 < b.1) {x : Int} (h : a.1 ≤ x) (h' : x ≤ a.2) : minW (quotW a b) b ≤ x ∧ x ≤ maxW (quotW a b) b := by
  have e1 := Int.ediv_mul_le a.1 (Int.ne_of_gt h4)
  have e2 := le_up (x := a.2) h4
  have f1 : (quotW a b).1 * b.1 ≤ a.1 / b.1 * b.1 := Int.mul_le_mul_of_nonneg_right (by unfold quotW; simp only; omega) (by omega)
  have f2 : upI a.2 b.1 * b.1 ≤ (quotW a b).2 * b.1 := Int.mul_le_mul_of_nonneg_right (by unfold quotW; simp only; omega) (by omega)
  unfold minW maxW
  omega
theorem minW_neg (a b : Int × Int) : minW (quotW (negI a) (negI b)) b = -maxW (quotW (negI a) (negI b)) (negI b) ∧ maxW (quotW (negI a) (negI b)) b = -minW (quotW (negI a) (negI b)) (negI b) := by
  generalize quotW (negI a) (negI b) = q
  unfold minW maxW negI
  simp only [Int.mul_neg]
  omega
theorem back_div {a b : Int × Int} (ha : Iv31 a) (hb : Iv31 b) (h0 : ¬ (b.1 ≤ 0 ∧ 0 ≤ b.2)) : ∃ q r, divW a b = (q, 0) ∧ Iv31 q ∧ prodsW q b 1 = (r, 0) ∧ inW a.1 r ∧ inW a.2 r := by
  have ha' := ha
  have hb' := hb
  unfold Iv31 at ha hb
  unfold divW
  rw [if_neg h0]
  by_cases hn : b.2 < 0
  · rw [if_pos hn]
    have hf := quot_fits (a := negI a) (b := negI b) (by unfold negI; simp only; omega) (by unfold negI; simp only; omega) (by unfold negI; simp only; omega) (by unfold negI; simp only; omega) (by unfold negI; simp only; omega)
    have k1 := quot_back (a := negI a) (b := negI b) (x := -a.1) (by unfold negI; simp only; omega) (by unfold negI; simp only; omega) (by unfold negI; simp only; omega) (by unfold negI; simp only; omega)
    have k2 := quot_back (a := negI a) (b := negI b) (x := -a.2) (by unfold negI; simp only; omega) (by unfold negI; simp only; omega) (by unfold negI; simp only; omega) (by unfold negI; simp only; omega)
    have hm := minW_neg a b
    refine ⟨_, _, rfl, hf, prods31 hf hb', ?_, ?_⟩ <;> unfold inW <;> simp only <;> omega
  · rw [if_neg hn]
    have hf := quot_fits (a := a) (b := b) (by omega) (by omega) (by omega) (by omega) (by omega)
    have k1 := quot_back (a := a) (b := b) (x := a.1) (by omega) (by omega) (by omega) (by omega)
    have k2 := quot_back (a := a) (b := b) (x := a.2) (by omega) (by omega) (by omega) (by omega)
    refine ⟨_, _, rfl, hf, prods31 hf hb', ?_, ?_⟩ <;> unfold inW <;> simp only <;> omega

/-! SpansTurn. -/
def IsRoot (n r : Int) (k : Nat) : Prop := 0 ≤ r ∧ r ^ k ≤ n ∧ n < (r + 1) ^ k
theorem IsRoot.uniq {n r s : Int} {k : Nat} (h : IsRoot n r k) (h' : IsRoot n s k) : r = s := by
  obtain ⟨h0, h1, h2⟩ := h
  obtain ⟨g0, g1, g2⟩ := h'
  obtain ⟨r, rfl⟩ := Int.eq_ofNat_of_zero_le h0
  obtain ⟨s, rfl⟩ := Int.eq_ofNat_of_zero_le g0
  obtain ⟨n, rfl⟩ := Int.eq_ofNat_of_zero_le (Int.le_trans (Int.pow_nonneg h0) h1)
  have e1 : IsRootN n k r := ⟨by exact_mod_cast h1, by exact_mod_cast h2⟩
  have e2 : IsRootN n k s := ⟨by exact_mod_cast g1, by exact_mod_cast g2⟩
  rw [e1.uniq e2]
theorem isRoot_pow {a : Int} {k : Nat} (ha : 0 ≤ a) (hk : 1 ≤ k) : IsRoot (a ^ k) a k := by
  refine ⟨ha, Int.le_refl _, ?_⟩
  obtain ⟨a, rfl⟩ := Int.eq_ofNat_of_zero_le ha
  have := npow_lt (show a < a + 1 by omega) hk
  exact_mod_cast this
end Go.Proofs.Ytmmgbofhbnflkaa
