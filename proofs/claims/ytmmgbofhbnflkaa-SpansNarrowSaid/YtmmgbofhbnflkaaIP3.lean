import Derived.Test.YtmmgbofhbnflkaaIP2
namespace Go.Proofs.Ytmmgbofhbnflkaa

/-! The law's own words: a value at two numbers, and those at the corners. -/
def valW (which : Nat) (x y : Int) : Int × Int :=
  if which = 0 then (x + y, x + y) else if which = 1 then (x - y, x - y) else if which = 2 then (x * y, x * y) else (downI x y, -downI (-x) y)
def joinW (o n : Int × Int) : Int × Int := (min o.1 n.1, max o.2 n.2)
def cornW (which : Nat) (a b : Int × Int) : Int × Int :=
  joinW (joinW (joinW (valW which a.1 b.1) (valW which a.2 b.1)) (valW which a.1 b.2)) (valW which a.2 b.2)
def inW (n : Int) (a : Int × Int) : Prop := a.1 ≤ n ∧ n ≤ a.2
def Iv31 (a : Int × Int) : Prop := -2147483648 ≤ a.1 ∧ a.1 ≤ a.2 ∧ a.2 ≤ 2147483648

theorem joinW_self (a : Int × Int) : joinW a a = a := by unfold joinW; rw [Int.min_self, Int.max_self]

theorem mul31 {x y : Int} (hx : -2147483648 ≤ x ∧ x ≤ 2147483648) (hy : -2147483648 ≤ y ∧ y ≤ 2147483648) : -4611686018427387904 ≤ x * y ∧ x * y ≤ 4611686018427387904 := by
  have h : (x * y).natAbs ≤ 2147483648 * 2147483648 := by
    rw [Int.natAbs_mul]
    exact Nat.mul_le_mul (by omega) (by omega)
  omega

def opW (which : Nat) (a b : Int × Int) : (Int × Int) × Int :=
  if which = 0 then spanW (a.1 + b.1) (a.2 + b.2) else if which = 1 then spanW (a.1 - b.2) (a.2 - b.1) else if which = 2 then prodsW a b 1 else divW a b

theorem spanW_ok {lo hi : Int} (h1 : okB lo = true) (h2 : okB hi = true) : spanW lo hi = ((lo, hi), 0) := by
  unfold spanW; rw [h1, h2]; rfl
theorem okB_of {n : Int} (h : -4611686018427387904 ≤ n ∧ n ≤ 4611686018427387904) : okB n = true := okB_iff.2 h

theorem prods31 {a b : Int × Int} (ha : Iv31 a) (hb : Iv31 b) : prodsW a b 1 = ((minW a b, maxW a b), 0) := by
  unfold prodsW
  obtain ⟨h1, h2, h3⟩ := ha
  obtain ⟨h4, h5, h6⟩ := hb
  have p1 := mul31 (x := a.1) (y := b.1) (by omega) (by omega)
  have p2 := mul31 (x := a.1) (y := b.2) (by omega) (by omega)
  have p3 := mul31 (x := a.2) (y := b.1) (by omega) (by omega)
  have p4 := mul31 (x := a.2) (y := b.2) (by omega) (by omega)
  rw [Int.ediv_one, upI_one]
  refine spanW_ok (okB_of ?_) (okB_of ?_)
  · unfold minW; omega
  · unfold maxW; omega

/-- What is computed is what the corners say, and has what is computed of members. -/
theorem inside (which : Nat) {a b : Int × Int} (ha : Iv31 a) (hb : Iv31 b) {x y : Int} (hx : inW x a) (hy : inW y b) (h0 : which ≤ 2 ∨ ¬ (b.1 ≤ 0 ∧ 0 ≤ b.2)) :
    opW which a b = (cornW which a b, 0) ∧ inW (valW which x y).1 (cornW which a b) ∧ inW (valW which x y).2 (cornW which a b) := by
  have hx' := hx
  have hy' := hy
  unfold inW at hx hy
  have ha' := ha
  have hb' := hb
  unfold Iv31 at ha hb
  by_cases h1 : which = 0
  · subst h1
    refine ⟨?_, ?_⟩
    · have e : opW 0 a b = spanW (a.1 + b.1) (a.2 + b.2) := rfl
      rw [e, spanW_ok (okB_of (by omega)) (okB_of (by omega))]
      congr 1
      unfold cornW joinW valW
      simp only [if_true]
      ext <;> simp only <;> omega
    · unfold cornW joinW valW inW
      simp only [if_true]
      omega
  by_cases h2 : which = 1
  · subst h2
    refine ⟨?_, ?_⟩
    · have e : opW 1 a b = spanW (a.1 - b.2) (a.2 - b.1) := rfl
      rw [e, spanW_ok (okB_of (by omega)) (okB_of (by omega))]
      congr 1
      unfold cornW joinW valW
      simp only [if_neg h1, if_true]
      ext <;> simp only <;> omega
    · unfold cornW joinW valW inW
      simp only [if_neg h1, if_true]
      omega
  by_cases h3 : which = 2
  · subst h3
    have hbt := prods_between hx.1 hx.2 hy.1 hy.2
    refine ⟨?_, ?_⟩
    · have e : opW 2 a b = prodsW a b 1 := rfl
      rw [e, prods31 ha' hb']
      congr 1
      unfold cornW joinW valW minW maxW
      simp only [if_neg h1, if_neg h2, if_true]
      ext <;> simp only <;> omega
    · unfold minW maxW at hbt
      unfold cornW joinW valW inW
      simp only [if_neg h1, if_neg h2, if_true]
      omega
  · have h0' : ¬ (b.1 ≤ 0 ∧ 0 ≤ b.2) := by
      rcases h0 with h | h
      · omega
      · exact h
    have e : opW which a b = divW a b := by unfold opW; rw [if_neg h1, if_neg h2, if_neg h3]
    have ev : ∀ x y, valW which x y = (downI x y, -downI (-x) y) := fun x y => by unfold valW; rw [if_neg h1, if_neg h2, if_neg h3]
    unfold cornW joinW inW
    rw [e]
    simp only [ev]
    unfold divW
    rw [if_neg h0']
    by_cases hn : b.2 < 0
    · rw [if_pos hn]
      have u1 : ∀ x y : Int, y < 0 → downI x y = -x / -y := fun x y h => if_pos h
      have u2 : ∀ x y : Int, y < 0 → -downI (-x) y = upI (-x) (-y) := fun x y h => by unfold downI upI; rw [if_pos h]
      rw [u1 _ _ (show b.1 < 0 by omega), u1 _ _ hn, u1 _ _ (show b.1 < 0 by omega), u1 _ _ hn, u1 _ _ (show y < 0 by omega)]
      rw [u2 _ _ (show b.1 < 0 by omega), u2 _ _ hn, u2 _ _ (show b.1 < 0 by omega), u2 _ _ hn, u2 _ _ (show y < 0 by omega)]
      have f1 := Int.ediv_le_ediv (show 0 < -b.1 by omega) (show -a.2 ≤ -a.1 by omega)
      have f2 := Int.ediv_le_ediv (show 0 < -b.2 by omega) (show -a.2 ≤ -a.1 by omega)
      have g1 := up_le (show 0 < -b.1 by omega) (show -a.2 ≤ -a.1 by omega)
      have g2 := up_le (show 0 < -b.2 by omega) (show -a.2 ≤ -a.1 by omega)
      have f3 := ediv_between (a := -a.2) (show 0 < -b.2 by omega) (show -b.2 ≤ -y by omega) (show -y ≤ -b.1 by omega)
      have g3 := up_between (a := -a.1) (show 0 < -b.2 by omega) (show -b.2 ≤ -y by omega) (show -y ≤ -b.1 by omega)
      have f4 := Int.ediv_le_ediv (show 0 < -y by omega) (show -a.2 ≤ -x by omega)
      have g4 := up_le (show 0 < -y by omega) (show -x ≤ -a.1 by omega)
      have m := down_le_up (a := -x) (show 0 < -y by omega)
      unfold quotW negI
      simp only
      generalize -a.1 / -b.1 = t1 at *
      generalize -a.1 / -b.2 = t2 at *
      generalize -a.2 / -b.1 = t3 at *
      generalize -a.2 / -b.2 = t4 at *
      generalize -a.2 / -y = t5 at *
      generalize -x / -y = t6 at *
      generalize upI (-a.1) (-b.1) = s1 at *
      generalize upI (-a.1) (-b.2) = s2 at *
      generalize upI (-a.2) (-b.1) = s3 at *
      generalize upI (-a.2) (-b.2) = s4 at *
      generalize upI (-a.1) (-y) = s5 at *
      generalize upI (-x) (-y) = s6 at *
      refine ⟨?_, by omega, by omega⟩
      congr 1
      ext <;> simp only <;> omega
    · rw [if_neg hn]
      have u1 : ∀ x y : Int, 0 < y → downI x y = x / y := fun x y h => downI_pos h
      have u2 : ∀ x y : Int, 0 < y → -downI (-x) y = upI x y := fun x y h => by rw [downI_pos h]; rfl
      rw [u1 _ _ (show 0 < b.1 by omega), u1 _ _ (show 0 < b.2 by omega), u1 _ _ (show 0 < b.1 by omega), u1 _ _ (show 0 < b.2 by omega), u1 _ _ (show 0 < y by omega)]
      rw [u2 _ _ (show 0 < b.1 by omega), u2 _ _ (show 0 < b.2 by omega), u2 _ _ (show 0 < b.1 by omega), u2 _ _ (show 0 < b.2 by omega), u2 _ _ (show 0 < y by omega)]
      have f1 := Int.ediv_le_ediv (show 0 < b.1 by omega) (show a.1 ≤ a.2 by omega)
      have f2 := Int.ediv_le_ediv (show 0 < b.2 by omega) (show a.1 ≤ a.2 by omega)
      have g1 := up_le (show 0 < b.1 by omega) (show a.1 ≤ a.2 by omega)
      have g2 := up_le (show 0 < b.2 by omega) (show a.1 ≤ a.2 by omega)
      have f3 := ediv_between (a := a.1) (show 0 < b.1 by omega) (show b.1 ≤ y by omega) (show y ≤ b.2 by omega)
      have g3 := up_between (a := a.2) (show 0 < b.1 by omega) (show b.1 ≤ y by omega) (show y ≤ b.2 by omega)
      have f4 := Int.ediv_le_ediv (show 0 < y by omega) (show a.1 ≤ x by omega)
      have g4 := up_le (show 0 < y by omega) (show x ≤ a.2 by omega)
      have m := down_le_up (a := x) (show 0 < y by omega)
      unfold quotW
      generalize a.1 / b.1 = t1 at *
      generalize a.1 / b.2 = t2 at *
      generalize a.2 / b.1 = t3 at *
      generalize a.2 / b.2 = t4 at *
      generalize a.1 / y = t5 at *
      generalize x / y = t6 at *
      generalize upI a.1 b.1 = s1 at *
      generalize upI a.1 b.2 = s2 at *
      generalize upI a.2 b.1 = s3 at *
      generalize upI a.2 b.2 = s4 at *
      generalize upI a.2 y = s5 at *
      generalize upI x y = s6 at *
      refine ⟨?_, by omega, by omega⟩
      congr 1
      ext <;> simp only <;> omega
end Go.Proofs.Ytmmgbofhbnflkaa
