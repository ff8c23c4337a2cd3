import Derived.Test.YtkoghdgfllichaaDoorRGB
namespace Go.Proofs.YtkoghdgfllichaaDoor

theorem V6.scl_comp {k : Int} {u v : V6} (h : V6.scl k u = v) : k * u.a = v.a ∧ k * u.b = v.b ∧ k * u.c = v.c ∧ k * u.d = v.d ∧ k * u.e = v.e ∧ k * u.f = v.f := by
  subst h; exact ⟨rfl, rfl, rfl, rfl, rfl, rfl⟩
theorem cross_one {d e a b x y u v : Int} (hd : d ≠ 0) (he : e ≠ 0) (h1 : d * x = a * u) (h2 : e * y = b * v) (h : e * u = d * v) : b * x = a * y := by
  have h0 : d * e ≠ 0 := Int.mul_ne_zero hd he
  refine Int.eq_of_mul_eq_mul_left h0 ?_
  calc d * e * (b * x) = e * b * (d * x) := by grind
    _ = e * b * (a * u) := by rw [h1]
    _ = a * b * (e * u) := by grind
    _ = a * b * (d * v) := by rw [h]
    _ = a * d * (b * v) := by grind
    _ = a * d * (e * y) := by rw [h2]
    _ = d * e * (a * y) := by grind
theorem lowR_eq {u v : V6} {d e : Int} (hd : 0 < d) (he : 0 < e) (h : V6.scl e u = V6.scl d v) : lowR u d = lowR v e := by
  have l1 := lowR_val (v := u) (d := d)
  have l2 := lowR_val (v := v) (d := e)
  obtain ⟨g1, p1⟩ := quo_low (v := u) (d := d) (by omega)
  obtain ⟨g2, p2⟩ := quo_low (v := v) (d := e) (by omega)
  have g1' : (lowR u d).v.g (lowR u d).d = 1 := g1
  have g2' : (lowR v e).v.g (lowR v e).d = 1 := g2
  have p1' : 0 < (lowR u d).d := p1
  have p2' : 0 < (lowR v e).d := p2
  clear g1 g2 p1 p2
  generalize lowR u d = X at *
  generalize lowR v e = Y at *
  obtain ⟨a1, a2, a3, a4, a5, a6⟩ := V6.scl_comp l1
  obtain ⟨b1, b2, b3, b4, b5, b6⟩ := V6.scl_comp l2
  obtain ⟨c1, c2, c3, c4, c5, c6⟩ := V6.scl_comp h
  have hd' : d ≠ 0 := by omega
  have he' : e ≠ 0 := by omega
  have hx : V6.scl Y.d X.v = V6.scl X.d Y.v := V6.eq (cross_one hd' he' a1 b1 c1) (cross_one hd' he' a2 b2 c2) (cross_one hd' he' a3 b3 c3) (cross_one hd' he' a4 b4 c4) (cross_one hd' he' a5 b5 c5) (cross_one hd' he' a6 b6 c6)
  obtain ⟨e1, e2⟩ := low_unique p1' p2' g1' g2' hx
  exact Rt.eq e2 e1
/-- Numbers within the bounds of ratios. -/
def V6.bd (v : V6) (M : Int) : Prop := (-M ≤ v.a ∧ v.a ≤ M) ∧ (-M ≤ v.b ∧ v.b ≤ M) ∧ (-M ≤ v.c ∧ v.c ≤ M) ∧ (-M ≤ v.d ∧ v.d ≤ M) ∧ (-M ≤ v.e ∧ v.e ≤ M) ∧ (-M ≤ v.f ∧ v.f ≤ M)
theorem tdiv_bd {x G M : Int} (hx : -M ≤ x ∧ x ≤ M) : -M ≤ x.tdiv G ∧ x.tdiv G ≤ M := by
  have h : (x.tdiv G).natAbs ≤ x.natAbs := by rw [Int.natAbs_tdiv]; exact Nat.div_le_self _ _
  omega
theorem lowR_ok {v : V6} {D : Int} (h1 : 1 ≤ D) (h2 : D ≤ 1000) (h : v.bd 100000) : (lowR v D).Ok := by
  obtain ⟨g, p⟩ := quo_low (v := v) (d := D) (by omega)
  refine ⟨?_, g⟩
  obtain ⟨b1, b2, b3, b4, b5, b6⟩ := h
  have q := (tdiv_bd (G := v.gs D) (x := D) (M := 1000) (by omega)).2
  refine Rt.fits_iff.2 ⟨?_, ?_, q⟩
  · show ∀ n ∈ [v.a.tdiv (v.gs D), v.b.tdiv (v.gs D), v.c.tdiv (v.gs D), v.d.tdiv (v.gs D), v.e.tdiv (v.gs D), v.f.tdiv (v.gs D)], _
    simp only [List.mem_cons, List.not_mem_nil, or_false, forall_eq_or_imp, forall_eq]
    exact ⟨tdiv_bd b1, tdiv_bd b2, tdiv_bd b3, tdiv_bd b4, tdiv_bd b5, tdiv_bd b6⟩
  · show 1 ≤ D.tdiv (v.gs D); omega
theorem lowW_of {v : V6} {D : Int} (h : (lowR v D).Ok) : lowW v D = (lowR v D, 0) := by
  unfold lowW; rw [if_pos h.fit]
theorem times_one {d e x y a b u v s : Int} (h1 : d * x = a * u) (h2 : e * y = b * v) : d * e * (b * x + s * a * y) = a * b * (e * u + s * d * v) := by
  calc d * e * (b * x + s * a * y) = e * b * (d * x) + s * a * d * (e * y) := by grind
    _ = e * b * (a * u) + s * a * d * (b * v) := by rw [h1, h2]
    _ = _ := by grind
/-- Mul and Div of ratios over one denominator. -/
theorem both_low {u v : V6} {D s : Int} (h1 : 1 ≤ D) (h2 : D ≤ 1000) (hu : u.bd 100000) (hv : v.bd 100000) (hw : (u.add (V6.scl s v)).bd 100000) :
    bothW (lowR u D) (lowR v D) s = (lowR (u.add (V6.scl s v)) D, 0) := by
  have ok1 := lowR_ok h1 h2 hu
  have ok2 := lowR_ok h1 h2 hv
  have ok3 := lowR_ok h1 h2 hw
  unfold bothW
  rw [if_pos (Rt.ok_iff.2 ok1), if_pos (Rt.ok_iff.2 ok2)]
  have l1 := lowR_val (v := u) (d := D)
  have l2 := lowR_val (v := v) (d := D)
  have p1 : 0 < (lowR u D).d := (quo_low (v := u) (d := D) (by omega)).2
  have p2 : 0 < (lowR v D).d := (quo_low (v := v) (d := D) (by omega)).2
  rw [← lowW_of ok3]
  have e : lowR (timesW (lowR u D) (lowR v D) s).1 (timesW (lowR u D) (lowR v D) s).2 = lowR (u.add (V6.scl s v)) D := by
    refine lowR_eq (Int.mul_pos p1 p2) (by omega) ?_
    generalize lowR u D = X at *
    generalize lowR v D = Y at *
    obtain ⟨a1, a2, a3, a4, a5, a6⟩ := V6.scl_comp l1
    obtain ⟨b1, b2, b3, b4, b5, b6⟩ := V6.scl_comp l2
    have key : ∀ x y p q : Int, D * x = X.d * p → D * y = Y.d * q → D * (Y.d * x + s * X.d * y) = X.d * Y.d * (p + s * q) := by
      intro x y p q e1 e2
      calc D * (Y.d * x + s * X.d * y) = Y.d * (D * x) + s * X.d * (D * y) := by grind
        _ = Y.d * (X.d * p) + s * X.d * (Y.d * q) := by rw [e1, e2]
        _ = _ := by grind
    exact V6.eq (key _ _ _ _ a1 b1) (key _ _ _ _ a2 b2) (key _ _ _ _ a3 b3) (key _ _ _ _ a4 b4) (key _ _ _ _ a5 b5) (key _ _ _ _ a6 b6)
  unfold lowW
  rw [e]
/-- Pow of a whole ratio, over a denominator. -/
theorem pow_low {c : V6} {n d q D : Int} (hd : 1 ≤ d) (hd2 : d ≤ 1000) (hn : -1000 ≤ n ∧ n ≤ 1000) (hq : 1 ≤ q) (hD : D = d * q) (h2 : D ≤ 1000) (hc : c.bd 100000) (hw : (V6.scl (n * q) c).bd 100000) :
    rpowW (lowR c 1) n d = (lowR (V6.scl (n * q) c) D, 0) := by
  have ok1 := lowR_ok (v := c) (D := 1) (by omega) (by omega) hc
  have hD1 : 1 ≤ D := by rw [hD]; exact Int.mul_pos (by omega) (by omega)
  have ok3 := lowR_ok hD1 h2 hw
  unfold rpowW
  rw [if_pos (Rt.ok_iff.2 ok1), if_pos ⟨hn.1, hn.2, by omega, by omega, by omega⟩, ← lowW_of ok3]
  have l1 := lowR_val (v := c) (d := 1)
  have p1 : 0 < (lowR c 1).d := (quo_low (v := c) (d := 1) (by omega)).2
  have e : lowR (V6.scl n (lowR c 1).v) ((lowR c 1).d * d) = lowR (V6.scl (n * q) c) D := by
    refine lowR_eq (Int.mul_pos p1 (by omega)) (by omega) ?_
    generalize lowR c 1 = X at *
    obtain ⟨a1, a2, a3, a4, a5, a6⟩ := V6.scl_comp l1
    have key : ∀ x p : Int, 1 * x = X.d * p → D * (n * x) = X.d * d * (n * q * p) := by
      intro x p e1
      rw [Int.one_mul] at e1
      subst e1 hD
      grind
    exact V6.eq (key _ _ a1) (key _ _ a2) (key _ _ a3) (key _ _ a4) (key _ _ a5) (key _ _ a6)
  unfold lowW
  rw [e]
theorem low_scl {v : V6} {D k : Int} (hD : 0 < D) (hk : 0 < k) : lowR (V6.scl k v) (k * D) = lowR v D := by
  refine lowR_eq (Int.mul_pos hk hD) hD ?_
  exact V6.eq (by show D * (k * v.a) = k * D * v.a; grind) (by show D * (k * v.b) = k * D * v.b; grind) (by show D * (k * v.c) = k * D * v.c; grind) (by show D * (k * v.d) = k * D * v.d; grind) (by show D * (k * v.e) = k * D * v.e; grind) (by show D * (k * v.f) = k * D * v.f; grind)
/-- The signs do not change by what lowest terms leave out. -/
theorem low_Fl {v : V6} {D : Int} (hD : 0 < D) (s k : Int) : Fl (lowR v D).v s (lowR v D).d k = Fl v s D k := by
  obtain ⟨b1, b2⟩ := quo_back (v := v) (d := D)
  have hp := gs_pos (v := v) hD
  show Sg ((V6.scl s (v.quo (v.gs D))).two (-(k * (D.tdiv (v.gs D))))) = Sg ((V6.scl s v).two (-(k * D)))
  generalize v.quo (v.gs D) = q at *
  generalize D.tdiv (v.gs D) = t at *
  generalize v.gs D = G at *
  rw [← b1, ← b2]
  rw [← Sg_scl G _ hp]
  congr 1
  exact V6.eq (by show G * (s * q.a + -(k * t)) = s * (G * q.a) + -(k * (G * t)); grind) (by show G * (s * q.b) = s * (G * q.b); grind) (by show G * (s * q.c) = s * (G * q.c); grind) (by show G * (s * q.d) = s * (G * q.d); grind) (by show G * (s * q.e) = s * (G * q.e); grind) (by show G * (s * q.f) = s * (G * q.f); grind)
theorem low_FlIs {v : V6} {D : Int} (hD : 0 < D) {s k : Int} : FlIs (lowR v D).v s (lowR v D).d k ↔ FlIs v s D k := by
  unfold FlIs; rw [low_Fl hD, low_Fl hD]
/-- Fold of a ratio over a denominator. -/
theorem low_fold {v : V6} {D : Int} (hD : 0 < D) (k : Int) : (⟨(lowR v D).v.two (-(k * (lowR v D).d)), (lowR v D).d⟩ : Rt) = lowR (v.two (-(k * D))) D := by
  obtain ⟨b1, b2⟩ := quo_back (v := v) (d := D)
  have hp := gs_pos (v := v) hD
  have g1 := (quo_low (v := v) (d := D) (by omega)).1
  have p1 := (quo_low (v := v) (d := D) (by omega)).2
  have l2 := lowR_val (v := v.two (-(k * D))) (d := D)
  obtain ⟨g2, p2⟩ := quo_low (v := v.two (-(k * D))) (d := D) (by omega)
  have hx : V6.scl (lowR (v.two (-(k * D))) D).d ((v.quo (v.gs D)).two (-(k * (D.tdiv (v.gs D))))) = V6.scl (D.tdiv (v.gs D)) (lowR (v.two (-(k * D))) D).v := by
    generalize lowR (v.two (-(k * D))) D = Y at *
    generalize v.quo (v.gs D) = q at *
    generalize D.tdiv (v.gs D) = t at *
    generalize v.gs D = G at *
    obtain ⟨a1, a2, a3, a4, a5, a6⟩ := V6.scl_comp b1
    obtain ⟨c1, c2, c3, c4, c5, c6⟩ := V6.scl_comp l2
    have hG : G ≠ 0 := by omega
    have key : ∀ x y z : Int, G * x = z → D * y = Y.d * z → Y.d * x = t * y := by
      intro x y z e1 e2
      refine Int.eq_of_mul_eq_mul_left hG ?_
      calc G * (Y.d * x) = Y.d * (G * x) := by grind
        _ = Y.d * z := by rw [e1]
        _ = D * y := e2.symm
        _ = G * t * y := by rw [b2]
        _ = _ := by grind
    refine V6.eq (key _ _ _ ?_ c1) (key _ _ _ a2 c2) (key _ _ _ a3 c3) (key _ _ _ a4 c4) (key _ _ _ a5 c5) (key _ _ _ a6 c6)
    show G * (q.a + -(k * t)) = v.a + -(k * D)
    rw [← a1, ← b2]; grind
  obtain ⟨e1, e2⟩ := low_unique (u := (v.quo (v.gs D)).two (-(k * (D.tdiv (v.gs D))))) p1 (show 0 < (lowR (v.two (-(k * D))) D).d from p2) (by rw [g_two]; exact g1) g2 hx
  exact Rt.eq e2 e1
end Go.Proofs.YtkoghdgfllichaaDoor
namespace Go.Proofs.YtkoghdgfllichaaDoor

def octV (x : Int) : V6 := ⟨x, 0, 0, 0, 0, 0⟩
theorem V6.add_neg_two (u v : V6) (x y : Int) : (u.two x).add (v.two y) = (u.add v).two (x + y) := by
  unfold V6.two V6.add; apply V6.eq <;> simp only; grind
theorem V6.two_two (u : V6) (x y : Int) : (u.two x).two y = u.two (x + y) := by
  unfold V6.two; apply V6.eq <;> simp only; grind
theorem V6.two_zero (u : V6) : u.two 0 = u := by unfold V6.two; apply V6.eq <;> simp
theorem V6.scl_one (u : V6) : V6.scl 1 u = u := by unfold V6.scl; apply V6.eq <;> simp
theorem Sg_oct_nn {x : Int} (h : 0 ≤ x) : 0 ≤ Sg (octV x) := by
  unfold Sg
  rw [sgn_ge]
  show 2 ^ (-x).toNat * 1 ≤ 2 ^ x.toNat * 1
  rw [show (-x).toNat = 0 by omega]
  simp [Nat.one_le_two_pow]
theorem Sg_oct_neg {x : Int} (h : 0 < x) : Sg (octV (-x)) < 0 := by
  unfold Sg
  rw [sgn_lt]
  show 2 ^ (-x).toNat * 1 < 2 ^ (- -x).toNat * 1
  rw [show (-x).toNat = 0 by omega, Nat.pow_zero, Nat.one_mul, Nat.mul_one]
  exact Nat.one_lt_two_pow (by omega)
theorem Sg_scl_nn {k : Int} {v : V6} (hk : 0 ≤ k) (h : 0 ≤ Sg v) : 0 ≤ Sg (V6.scl k v) := by
  rcases Int.lt_or_le 0 k with h1 | h1
  · rw [Sg_scl k v h1]; exact h
  · obtain rfl : k = 0 := by omega
    have e : V6.scl 0 v = octV 0 := by unfold V6.scl octV; simp
    rw [e]; exact Sg_oct_nn (Int.le_refl 0)
/-- Between so many octaves. -/
def Bt (D : Int) (v : V6) (a b : Int) : Prop := 0 ≤ Sg (v.two (-(a * D))) ∧ 0 ≤ Sg ((V6.scl (-1) v).two (b * D))
theorem Bt.add {D : Int} {u v : V6} {a b c d : Int} (h : Bt D u a b) (h' : Bt D v c d) : Bt D (u.add v) (a + c) (b + d) := by
  constructor
  · have := Sg_add_ge h.1 h'.1
    rw [V6.add_neg_two] at this
    rw [show -((a + c) * D) = -(a * D) + -(c * D) by grind]
    exact this
  · have := Sg_add_ge h.2 h'.2
    rw [V6.add_neg_two] at this
    rw [show V6.scl (-1) (u.add v) = (V6.scl (-1) u).add (V6.scl (-1) v) by unfold V6.scl V6.add; apply V6.eq <;> simp only <;> grind, show (b + d) * D = b * D + d * D by grind]
    exact this
theorem Bt.neg {D : Int} {v : V6} {a b : Int} (h : Bt D v a b) : Bt D (V6.scl (-1) v) (-b) (-a) := by
  constructor
  · rw [show -(-b * D) = b * D by grind]; exact h.2
  · rw [show V6.scl (-1) (V6.scl (-1) v) = v by unfold V6.scl; apply V6.eq <;> simp only <;> grind, show -a * D = -(a * D) by grind]; exact h.1
theorem Bt.oct (D k : Int) : Bt D (octV (k * D)) k k := by
  have e1 : (octV (k * D)).two (-(k * D)) = octV 0 := by unfold octV V6.two; apply V6.eq <;> simp only; grind
  have e2 : (V6.scl (-1) (octV (k * D))).two (k * D) = octV 0 := by unfold octV V6.two V6.scl; apply V6.eq <;> simp only <;> grind
  constructor
  · rw [e1]; exact Sg_oct_nn (Int.le_refl 0)
  · rw [e2]; exact Sg_oct_nn (Int.le_refl 0)
theorem Bt.fl {D : Int} {v : V6} {a b k : Int} (hD : 0 < D) (h : Bt D v a b) (hk : FlIs v 1 D k) : a ≤ k ∧ k ≤ b := by
  have e : ∀ m, Fl v 1 D m = Sg (v.two (-(m * D))) := fun m => by unfold Fl; rw [V6.scl_one]
  constructor
  · exact hk.le hD (by rw [e]; exact h.1)
  · rcases Int.lt_or_le b k with h1 | h1
    · exfalso
      have h2 := Fl_anti hD (show b + 1 ≤ k by omega) hk.1
      rw [e] at h2
      have h3 := Sg_add_ge h2 h.2
      rw [V6.add_neg_two] at h3
      have e3 : (v.add (V6.scl (-1) v)).two (-((b + 1) * D) + b * D) = octV (-D) := by
        unfold V6.add V6.scl V6.two octV; apply V6.eq <;> simp only <;> grind
      rw [e3] at h3
      have := Sg_oct_neg hD
      omega
    · exact h1
theorem FlIs.bt {D : Int} {v : V6} {k : Int} (h : FlIs v 1 D k) : Bt D v k (k + 1) := by
  have e : ∀ m, Fl v 1 D m = Sg (v.two (-(m * D))) := fun m => by unfold Fl; rw [V6.scl_one]
  constructor
  · have := h.1; rw [e] at this; exact this
  · have h2 := h.2
    rw [e] at h2
    have e2 : (V6.scl (-1) v).two ((k + 1) * D) = V6.scl (-1) (v.two (-((k + 1) * D))) := by unfold V6.two V6.scl; apply V6.eq <;> simp only; grind
    rw [e2, Sg_neg]
    omega
theorem FlIs.shift {D : Int} {v : V6} {j m : Int} : FlIs (v.two (-(j * D))) 1 D m ↔ FlIs v 1 D (j + m) := by
  have e : ∀ m, Fl (v.two (-(j * D))) 1 D m = Fl v 1 D (j + m) := fun m => by
    unfold Fl; rw [V6.scl_one, V6.scl_one, V6.two_two]
    congr 2; grind
  unfold FlIs
  rw [e, e, show j + (m + 1) = j + m + 1 by omega]
theorem Bt.shift {D : Int} {v : V6} {a b k : Int} (h : Bt D v a b) : Bt D (v.two (-(k * D))) (a - k) (b - k) := by
  have h2 := h.add (Bt.oct D (-k))
  have e : v.add (octV (-k * D)) = v.two (-(k * D)) := by unfold V6.add octV V6.two; apply V6.eq <;> simp only <;> grind
  rw [e] at h2
  exact h2
theorem V6.bd.mono {v : V6} {M N : Int} (h : v.bd M) (hl : M ≤ N) : v.bd N := by
  unfold V6.bd at *; omega
theorem V6.bd.add {u v : V6} {M N : Int} (h : u.bd M) (h' : v.bd N) : (u.add v).bd (M + N) := by
  unfold V6.bd V6.add at *; simp only; omega
theorem V6.bd.neg {v : V6} {M : Int} (h : v.bd M) : (V6.scl (-1) v).bd M := by
  unfold V6.bd V6.scl at *; simp only; omega
theorem V6.bd.two {v : V6} {M x N : Int} (h : v.bd M) (h1 : -N ≤ x) (h2 : x ≤ N) : (v.two x).bd (M + N) := by
  unfold V6.bd V6.two at *; simp only; omega
theorem octV_bd {x M : Int} (h1 : -M ≤ x) (h2 : x ≤ M) : (octV x).bd M := by
  unfold V6.bd octV; simp only; omega
def PS (F : Nat → V6) : Nat → V6
  | 0 => octV 0
  | n + 1 => (PS F n).add (F n)
theorem PS_congr {F G : Nat → V6} : ∀ {n : Nat}, (∀ i, i < n → F i = G i) → PS F n = PS G n
  | 0, _ => rfl
  | n + 1, h => by
    show (PS F n).add (F n) = (PS G n).add (G n)
    rw [PS_congr fun i hi => h i (by omega), h n (by omega)]
theorem V6.add_assoc (u v w : V6) : (u.add v).add w = u.add (v.add w) := by unfold V6.add; apply V6.eq <;> simp only <;> grind
theorem V6.add_comm (u v : V6) : u.add v = v.add u := by unfold V6.add; apply V6.eq <;> simp only <;> grind
theorem V6.add_zero (u : V6) : u.add (octV 0) = u := by unfold V6.add octV; apply V6.eq <;> simp
theorem PS_add (F : Nat → V6) (m : Nat) : ∀ n, PS F (m + n) = (PS F m).add (PS (fun j => F (m + j)) n)
  | 0 => by show PS F m = (PS F m).add (octV 0); rw [V6.add_zero]
  | n + 1 => by
    show (PS F (m + n)).add (F (m + n)) = (PS F m).add ((PS (fun j => F (m + j)) n).add (F (m + n)))
    rw [PS_add F m n, V6.add_assoc]
theorem PS_bd {F : Nat → V6} {M : Int} : ∀ {n : Nat}, (∀ i, i < n → (F i).bd M) → (PS F n).bd (n * M)
  | 0, _ => by refine octV_bd ?_ ?_ <;> simp
  | n + 1, h => by
    have h1 := (PS_bd (n := n) fun i hi => h i (by omega)).add (h n (by omega))
    rw [show ((n + 1 : Nat) : Int) * M = n * M + M by push_cast; grind]
    exact h1
theorem PS_bt {F : Nat → V6} {D : Int} : ∀ {n : Nat}, (∀ i, i < n → Bt D (F i) 0 1) → Bt D (PS F n) 0 n
  | 0, _ => by have := Bt.oct D 0; rw [Int.zero_mul] at this; exact this
  | n + 1, h => by
    have h1 := (PS_bt (n := n) fun i hi => h i (by omega)).add (h n (by omega))
    rw [show ((n + 1 : Nat) : Int) = (n : Int) + 1 by omega]
    exact h1
/-- What is left of seven octaves. -/
def LS (D : Int) (F : Nat → V6) (wf : Nat) : Nat → V6
  | 0 => octV (7 * D)
  | n + 1 => if n = wf then LS D F wf n else (LS D F wf n).add (V6.scl (-1) (F n))
theorem LS_low {D : Int} {F : Nat → V6} {wf : Nat} : ∀ {n : Nat}, n ≤ wf → (LS D F wf n).add (PS F n) = octV (7 * D)
  | 0, _ => by show (octV (7 * D)).add (octV 0) = _; rw [V6.add_zero]
  | n + 1, h => by
    have ih := LS_low (D := D) (F := F) (n := n) (wf := wf) (by omega)
    show (LS D F wf (n + 1)).add ((PS F n).add (F n)) = _
    unfold LS
    rw [if_neg (by omega), ← ih]
    unfold V6.add V6.scl; apply V6.eq <;> simp only <;> grind
theorem LS_high {D : Int} {F : Nat → V6} {wf : Nat} : ∀ {n : Nat}, wf < n → (LS D F wf n).add ((PS F n).add (V6.scl (-1) (F wf))) = octV (7 * D)
  | 0, h => by omega
  | n + 1, h => by
    rcases Nat.lt_or_ge wf n with h1 | h1
    · have ih := LS_high (D := D) (F := F) (n := n) (wf := wf) h1
      show (LS D F wf (n + 1)).add (((PS F n).add (F n)).add (V6.scl (-1) (F wf))) = _
      unfold LS
      rw [if_neg (by omega), ← ih]
      unfold V6.add V6.scl; apply V6.eq <;> simp only <;> grind
    · obtain rfl : n = wf := by omega
      have ih := LS_low (D := D) (F := F) (n := n) (wf := n) (Nat.le_refl n)
      show (LS D F n (n + 1)).add (((PS F n).add (F n)).add (V6.scl (-1) (F n))) = _
      unfold LS
      rw [if_pos rfl, ← ih]
      unfold V6.add V6.scl; apply V6.eq <;> simp only <;> grind
/-- The sizes of the fifths. -/
def FF (D : Int) (F : Nat → V6) (wf : Nat) (i : Nat) : V6 := if i = wf then LS D F wf 12 else F i
theorem FF_wf {D : Int} {F : Nat → V6} {wf : Nat} : FF D F wf wf = LS D F wf 12 := if_pos rfl
theorem FF_ne {D : Int} {F : Nat → V6} {wf i : Nat} (h : i ≠ wf) : FF D F wf i = F i := if_neg h
theorem LS_congr {D : Int} {F G : Nat → V6} {wf : Nat} : ∀ {n : Nat}, (∀ i, i < n → i ≠ wf → F i = G i) → LS D F wf n = LS D G wf n
  | 0, _ => rfl
  | n + 1, h => by
    have ih := LS_congr (D := D) (F := F) (G := G) (wf := wf) (n := n) fun i hi hn => h i (by omega) hn
    unfold LS
    by_cases hn : n = wf
    · rw [if_pos hn, if_pos hn]; exact ih
    · rw [if_neg hn, if_neg hn, ih, h n (by omega) hn]
/-- All twelve are seven octaves. -/
theorem FF_sum {D : Int} {F : Nat → V6} {wf : Nat} (hw : wf < 12) : PS (FF D F wf) 12 = octV (7 * D) := by
  have e : LS D (FF D F wf) wf 12 = LS D F wf 12 := LS_congr fun i _ hn => FF_ne hn
  have h := LS_high (D := D) (F := FF D F wf) (n := 12) hw
  rw [e, FF_wf] at h
  rw [← h]
  unfold V6.add V6.scl; apply V6.eq <;> simp only <;> grind
theorem FF_tail {D : Int} {F : Nat → V6} {wf i : Nat} (hw : wf < 12) (hi : i ≤ 12) : PS (FF D F wf) i = (octV (7 * D)).add (V6.scl (-1) (PS (fun j => FF D F wf (i + j)) (12 - i))) := by
  have h := PS_add (FF D F wf) i (12 - i)
  rw [show i + (12 - i) = 12 by omega, FF_sum hw] at h
  rw [h]
  unfold V6.add V6.scl; apply V6.eq <;> simp only <;> grind
structure Circ (D : Int) (F : Nat → V6) (wf : Nat) : Prop where
  d1 : 1 ≤ D
  d2 : D ≤ 120
  w : wf < 12
  bd : ∀ i, i < 12 → (F i).bd 4680
  bt : ∀ i, i < 12 → Bt D (F i) 0 1
theorem Circ.sum_bd {D : Int} {F : Nat → V6} {wf i : Nat} (h : Circ D F wf) (hi : i ≤ 12) : (PS (FF D F wf) i).bd 57000 := by
  rcases Nat.lt_or_ge wf i with h1 | h1
  · rw [FF_tail h.w hi]
    have hb : (PS (fun j => FF D F wf (i + j)) (12 - i)).bd ((12 - i : Nat) * 4680) := PS_bd fun j hj => by
      show (FF D F wf (i + j)).bd 4680
      rw [FF_ne (by omega)]; exact h.bd _ (by omega)
    have hd1 := h.d1
    have hd2 := h.d2
    refine ((octV_bd (x := 7 * D) (M := 840) (by omega) (by omega)).add hb.neg).mono ?_
    omega
  · have hb : (PS (FF D F wf) i).bd (i * 4680) := PS_bd fun j hj => by
      rw [FF_ne (by omega)]; exact h.bd _ (by omega)
    exact hb.mono (by omega)
theorem Circ.sum_bt {D : Int} {F : Nat → V6} {wf i : Nat} (h : Circ D F wf) (hi : i ≤ 12) : Bt D (PS (FF D F wf) i) (-5) 12 ∨ Bt D (PS (FF D F wf) i) 0 i ∨ Bt D (PS (FF D F wf) i) (7 - (12 - i : Nat)) 7 := by
  rcases Nat.lt_or_ge wf i with h1 | h1
  · refine .inr (.inr ?_)
    rw [FF_tail h.w hi]
    have hb : Bt D (PS (fun j => FF D F wf (i + j)) (12 - i)) 0 (12 - i : Nat) := PS_bt fun j hj => by
      show Bt D (FF D F wf (i + j)) 0 1
      rw [FF_ne (by omega)]; exact h.bt _ (by omega)
    have := (Bt.oct D 7).add hb.neg
    rw [Int.neg_zero, Int.add_zero] at this
    exact this
  · refine .inr (.inl ?_)
    exact PS_bt fun j hj => by
      rw [FF_ne (by omega)]; exact h.bt _ (by omega)
theorem Circ.sum_k {D : Int} {F : Nat → V6} {wf i : Nat} {k : Int} (h : Circ D F wf) (hi : i ≤ 12) (hk : FlIs (PS (FF D F wf) i) 1 D k) : -12 ≤ k ∧ k ≤ 12 := by
  have hd1 := h.d1
  rcases h.sum_bt hi with h1 | h1 | h1
  · have := h1.fl (by omega) hk; omega
  · have := h1.fl (by omega) hk; omega
  · have := h1.fl (by omega) hk; omega
theorem LS_bd {D : Int} {F : Nat → V6} {wf : Nat} (h : ∀ i, i < 12 → (F i).bd 4680) (hD : 0 ≤ D ∧ D ≤ 120) : ∀ {n : Nat}, n ≤ 12 → (LS D F wf n).bd (840 + n * 4680)
  | 0, _ => octV_bd (by omega) (by omega)
  | n + 1, hn => by
    have ih := LS_bd (F := F) (wf := wf) h hD (n := n) (by omega)
    unfold LS
    split
    · exact ih.mono (by omega)
    · exact (ih.add (h n (by omega)).neg).mono (by omega)
theorem Circ.ls_bd {D : Int} {F : Nat → V6} {wf n : Nat} (h : Circ D F wf) (hn : n ≤ 12) : (LS D F wf n).bd 57000 :=
  (LS_bd h.bd ⟨by have := h.d1; omega, h.d2⟩ hn).mono (by omega)
theorem Circ.ff_bd {D : Int} {F : Nat → V6} {wf i : Nat} (h : Circ D F wf) (hi : i < 12) : (FF D F wf i).bd 57000 := by
  unfold FF
  split
  · exact h.ls_bd (Nat.le_refl 12)
  · exact (h.bd i hi).mono (by omega)
/-- A note: the sum of fifths, less octaves. -/
def NoteIs (D : Int) (F : Nat → V6) (wf i : Nat) (r : Rt) : Prop := ∃ k, FlIs (PS (FF D F wf) i) 1 D k ∧ r = lowR ((PS (FF D F wf) i).two (-(k * D))) D
theorem mulD_bd {k D : Int} (h1 : 1 ≤ D) (h2 : D ≤ 120) {K : Int} (hk1 : -K ≤ k) (hk2 : k ≤ K) : -(K * 120) ≤ k * D ∧ k * D ≤ K * 120 := by
  have hK : 0 ≤ K := by omega
  constructor
  · have h3 : -K * D ≤ k * D := Int.mul_le_mul_of_nonneg_right hk1 (by omega)
    have h4 : K * D ≤ K * 120 := Int.mul_le_mul_of_nonneg_left h2 hK
    have h5 : -K * D = -(K * D) := Int.neg_mul _ _
    omega
  · have h3 : k * D ≤ K * D := Int.mul_le_mul_of_nonneg_right hk2 (by omega)
    have h4 : K * D ≤ K * 120 := Int.mul_le_mul_of_nonneg_left h2 hK
    omega
theorem Circ.note_bd {D : Int} {F : Nat → V6} {wf i j : Nat} {k : Int} (h : Circ D F wf) (hi : i ≤ 12) (hj : j ≤ 12) (hk : FlIs (PS (FF D F wf) j) 1 D k) : ((PS (FF D F wf) i).two (-(k * D))).bd 60000 := by
  have h1 := h.sum_k hj hk
  have h2 := mulD_bd h.d1 h.d2 h1.1 h1.2
  exact ((h.sum_bd hi).two (N := 1440) (by omega) (by omega)).mono (by omega)
theorem Circ.note_ok {D : Int} {F : Nat → V6} {wf i : Nat} {r : Rt} (h : Circ D F wf) (hi : i ≤ 12) (hn : NoteIs D F wf i r) : r.Ok := by
  obtain ⟨k, hk, rfl⟩ := hn
  exact lowR_ok h.d1 (by have := h.d2; omega) ((h.note_bd hi hi hk).mono (by omega))
/-- The first note. -/
theorem Circ.note_zero {D : Int} {F : Nat → V6} {wf : Nat} (h : Circ D F wf) : NoteIs D F wf 0 (lowR (octV 0) D) := by
  refine ⟨0, ?_, ?_⟩
  · constructor
    · show 0 ≤ Sg ((V6.scl 1 (octV 0)).two (-(0 * D)))
      rw [V6.scl_one, Int.zero_mul]; exact Sg_oct_nn (Int.le_refl 0)
    · show Sg ((V6.scl 1 (octV 0)).two (-((0 + 1) * D))) < 0
      rw [V6.scl_one]
      have e : (octV 0).two (-((0 + 1) * D)) = octV (-D) := by unfold octV V6.two; simp
      rw [e]; exact Sg_oct_neg (by have := h.d1; omega)
  · rw [Int.zero_mul, Int.neg_zero, V6.two_zero]; rfl
/-- One fifth higher. -/
theorem Circ.note_mul {D : Int} {F : Nat → V6} {wf i : Nat} {r : Rt} (h : Circ D F wf) (hi : i < 12) (hn : NoteIs D F wf i r) :
    ∃ k, FlIs (PS (FF D F wf) i) 1 D k ∧ bothW r (lowR (FF D F wf i) D) 1 = (lowR ((PS (FF D F wf) (i + 1)).two (-(k * D))) D, 0) := by
  obtain ⟨k, hk, rfl⟩ := hn
  refine ⟨k, hk, ?_⟩
  have e : ((PS (FF D F wf) i).two (-(k * D))).add (V6.scl 1 (FF D F wf i)) = (PS (FF D F wf) (i + 1)).two (-(k * D)) := by
    rw [V6.scl_one]
    show _ = ((PS (FF D F wf) i).add (FF D F wf i)).two (-(k * D))
    unfold V6.two V6.add; apply V6.eq <;> simp only; grind
  rw [← e]
  refine both_low h.d1 (by have := h.d2; omega) ((h.note_bd (by omega) (by omega) hk).mono (by omega)) ((h.ff_bd hi).mono (by omega)) ?_
  rw [e]
  exact (h.note_bd (by omega) (by omega) hk).mono (by omega)
end Go.Proofs.YtkoghdgfllichaaDoor
